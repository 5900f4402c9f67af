/- l4Used and TrimGame of the model. -/
import Derived.Test.YtimfnhejiiagmaaTgu
import Derived.Test.YtimfnhejiiagmaaTgp
import Derived.Test.YtimfnhejiiagmaaAsks
import Derived.Test.YtimfnhejiiagmaaGval
namespace Go.Proofs.Ytimfnhejiiagmaa.tgs
open Go.RowKit Go.Deep Go.Proofs.Ytimfnhejiiagmaa.base
open Go.Proofs.Ytimfnhejiiagmaa.rws (total)
open Go.Proofs.Ytimfnhejiiagmaa.gval (okGame gameB gameB_yes gameB_no)
open Go.Proofs.Ytimfnhejiiagmaa.gwon (wt wt_bd)
open Go.Proofs.Ytimfnhejiiagmaa.gask (wts len_wts N)
open Go.Proofs.Ytimfnhejiiagmaa.tgm Go.Proofs.Ytimfnhejiiagmaa.tgp


set_option maxRecDepth 100000 in
set_option maxHeartbeats 4000000 in
theorem used0 (X Y : Nat) (v : Value) (ws : List Int) (u : Value) (xss : List (List Int)) (w : World) (h : game.GV w v ws u xss) (hok : okGame X Y ws xss) :
    Calls Try.prog 82 #[.agg #[.int .i64 (X : Int), .int .i64 (Y : Int), v, u], .int .i64 0] w fun e w' => ∃ u, e = .returned u ∧ Ints w' u (U X (tgm.one Y ws (X * Y))) ∧ Below w.heap.size w w' := by
  have hX3 : X ≤ 3 := by have := hok.1.1; omega
  have hY3 : 1 ≤ Y ∧ Y ≤ 3 := by have := hok.1.2; omega
  have HLW : Hid (ws.length = X * Y) := Lib.hid (by have := hok.2.1; exact_mod_cast this)
  have HWB : Hid (∀ t, 0 ≤ wt ws t) := Lib.hid (fun t => (wt_bd hok t).1)
  obtain ⟨ua, un, uc, rfl⟩ := h.rows.shape
  obtain ⟨va, wb, wo, vc, rfl, hcap, hmax, hA, hc⟩ := h.ints.form
  have HC : Hid (∀ k, k < ws.length → w.cell? ⟨wb, wo + k, none⟩ = some (.int .i64 (wt ws k)) ∧ va = some ⟨wb, wo, none⟩) := Lib.hid (fun k hk => ⟨by rw [← gwon.wt_get hk]; exact hc k hk, hA (by omega)⟩)
  have B0 := Lib.hid (below_al (below_al (Below.refl w.heap.size w) (.cells #[.int .i64 (X : Int), .int .i64 (Y : Int), .slice va ws.length vc, .slice ua un uc] 40)) (.cells #[] 3))
  have K0 := Lib.hid ((Blk.new w 40 #[.int .i64 (X : Int), .int .i64 (Y : Int), .slice va ws.length vc, .slice ua un uc]).alloc (.cells #[] 3))
  have I0 : Hid (Ints ((w.alloc (.cells #[.int .i64 (X : Int), .int .i64 (Y : Int), .slice va ws.length vc, .slice ua un uc] 40)).alloc (.cells #[] 3)) (.slice (some ⟨w.heap.size + 1, 0, none⟩) (U X (tgm.one Y ws 0)).length 0) (U X (tgm.one Y ws 0))) := Lib.hid (by
    have e : U X (tgm.one Y ws 0) = [] := by simp [U, tgm.one]
    rw [e]
    exact app.empty _ _ _ (Nat.zero_le _))
  have e0 : (U X (tgm.one Y ws 0)).length = 0 := by simp [U, tgm.one]
  have HY1 := Lib.hid hY3
  have hyz : (Y : Int) ≤ 3 := by omega
  have hyn : ¬ (Y = 0) := by omega
  have hyz1 : 1 ≤ (Y : Int) := by omega
  have w9 : ws.length ≤ 9 := by rw [HLW.out]; exact Nat.mul_le_mul hX3 hY3.2
  have HB3 : Hid (X ≤ 3) := Lib.hid (by omega)
  clear h hok hA hc hcap hmax hX3
  go_enter Try.func82, Try.ntmps82
  go_wp2_with fail
  go_loopw [5, 6] (fun ov j wr => ∃ k : Nat, k ≤ ws.length ∧ j = .int .i64 (k : Nat) ∧ (∃ b o pc, ov = .slice (some ⟨b, o, none⟩) (U X (tgm.one Y ws k)).length pc ∧ Hid (Ints wr (.slice (some ⟨b, o, none⟩) (U X (tgm.one Y ws k)).length pc) (U X (tgm.one Y ws k)))) ∧ Hid (Below w.heap.size w wr) ∧ Hid (Blk wr w.heap.size 40 #[.int .i64 (X : Int), .int .i64 (Y : Int), .slice va ws.length vc, .slice ua un uc])) (fun _ j _ => ws.length - (intOf j).toNat)
  case atStart => exact ⟨0, Nat.zero_le _, rfl, ⟨w.heap.size + 1, 0, 0, by rw [e0], I0⟩, B0, K0⟩
  case round =>
    clear B0 K0 I0 e0
    obtain ⟨k, hk, rfl, ⟨b, o, pc, rfl, hI⟩, hB, hK⟩ := hrel
    obtain ⟨wi, rfl⟩ : ∃ wi : World, wi = wr := ⟨_, rfl⟩
    obtain ⟨c0, c1, c2, c3, c4⟩ := four_cells hK.out
    by_cases hlt : k < ws.length
    · have hkz : (k : Int) < (ws.length : Int) := by omega
      obtain ⟨f1, rfl⟩ := HC.out k hlt
      have f1 := below_cell hB.out _ _ f1
      have HLT := Lib.hid hlt
      by_cases hw : 0 < wt ws k
      · have HY2 := Lib.hid (tgm.one_yes (Y := Y) hw)
        have dq : (wt ws k == 0) = false := by simp; omega
        obtain ⟨n, hn⟩ : ∃ n : Nat, k / Y = n := ⟨_, rfl⟩
        have hnn : (k : Int) / (Y : Int) = (n : Int) := by rw [← hn]; simp
        rw [hn] at HY2
        have HNB : Hid (n < X) := Lib.hid (by
          rw [← hn]
          exact (Nat.div_lt_iff_lt_mul (by have := HY1.out; omega)).2 (by rw [← HLW.out]; exact hlt))
        have HML : Hid (∀ x ∈ tgm.one Y ws k, 0 ≤ x ∧ x < (X : Int)) := Lib.hid (one_lt (by have := HY1.out; omega) (by rw [← HLW.out]; exact hk))
        have n3 : n ≤ 3 := by have := HNB.out; have := HB3.out; omega
        have HPU : Hid (∀ q, q ≤ (U X (tgm.one Y ws k)).length → (∀ j, j < q → (U X (tgm.one Y ws k)).getD j 0 < (n : Int)) → (q < (U X (tgm.one Y ws k)).length → (n : Int) ≤ (U X (tgm.one Y ws k)).getD q 0) → putAt (U X (tgm.one Y ws k)) (n : Int) q = U X (tgm.one Y ws (k + 1))) := Lib.hid (fun q h1 h2 h3 => by
          rw [HY2.out]
          exact putAt_U HML.out ⟨Int.natCast_nonneg _, Int.ofNat_lt.2 HNB.out⟩ h1 h2 h3)
        have HCA := Lib.hid (tgu.l1put b o pc (U X (tgm.one Y ws k)) (n : Int) wi hI.out (by have := U_len X (tgm.one Y ws k); have := HB3.out; omega))
        generalize wt ws k = tt at *
        clear hn hw
        go_wp2_with fail
        refine HCA.out.mono ?_
        rintro e w2 ⟨b2, o2, pc2, q, h1, h2, h3, rfl, hI2, hb2⟩
        rw [HPU.out q h1 h2 h3] at hI2 ⊢
        have I2 := Lib.hid hI2
        have B2 := Lib.hid (below_tr hB.out hb2)
        have K2 := Lib.hid (hK.out.below hb2)
        clear h1 h2 h3 hI2 hb2 hI hB hK HCA HPU c0 c1 c2 c3 c4 f1
        go_wp2_with fail
        go_roundw
        case rel => exact ⟨k + 1, by have := HLT.out; omega, by go_num, ⟨b2, o2, pc2, rfl, I2⟩, B2, K2⟩
        case measure => have := HLT.out; simp [intOf]; omega
      · have HY2 := Lib.hid (tgm.one_no (Y := Y) hw)
        have dq : (wt ws k == 0) = true := by have := HWB.out k; simp; omega
        rw [← HY2.out] at hI
        generalize wt ws k = tt at *
        clear hw
        go_wp2_with fail
        go_roundw
        case rel => exact ⟨k + 1, by have := HLT.out; omega, by go_num, ⟨b, o, pc, by rw [HY2.out], hI⟩, hB, hK⟩
        case measure => have := HLT.out; simp [intOf]; omega
    · have hkz : ¬ (k : Int) < (ws.length : Int) := by omega
      have HKE : Hid (k = X * Y) := Lib.hid (by have := HLW.out; omega)
      rw [HKE.out] at hI
      go_wp2_with fail
      go_ret
      exact ⟨_, rfl, by rw [HKE.out]; exact hI.out, hB.out⟩


set_option maxRecDepth 100000 in
set_option maxHeartbeats 4000000 in
theorem used1 (X Y : Nat) (v : Value) (ws : List Int) (u : Value) (xss : List (List Int)) (w : World) (h : game.GV w v ws u xss) (hok : okGame X Y ws xss) :
    Calls Try.prog 82 #[.agg #[.int .i64 (X : Int), .int .i64 (Y : Int), v, u], .int .i64 1] w fun e w' => ∃ u, e = .returned u ∧ Ints w' u (U Y (tgm.two Y ws (X * Y))) ∧ Below w.heap.size w w' := by
  have hX3 : X ≤ 3 := by have := hok.1.1; omega
  have hY3 : 1 ≤ Y ∧ Y ≤ 3 := by have := hok.1.2; omega
  have HLW : Hid (ws.length = X * Y) := Lib.hid (by have := hok.2.1; exact_mod_cast this)
  have HWB : Hid (∀ t, 0 ≤ wt ws t) := Lib.hid (fun t => (wt_bd hok t).1)
  obtain ⟨ua, un, uc, rfl⟩ := h.rows.shape
  obtain ⟨va, wb, wo, vc, rfl, hcap, hmax, hA, hc⟩ := h.ints.form
  have HC : Hid (∀ k, k < ws.length → w.cell? ⟨wb, wo + k, none⟩ = some (.int .i64 (wt ws k)) ∧ va = some ⟨wb, wo, none⟩) := Lib.hid (fun k hk => ⟨by rw [← gwon.wt_get hk]; exact hc k hk, hA (by omega)⟩)
  have B0 := Lib.hid (below_al (below_al (Below.refl w.heap.size w) (.cells #[.int .i64 (X : Int), .int .i64 (Y : Int), .slice va ws.length vc, .slice ua un uc] 40)) (.cells #[] 3))
  have K0 := Lib.hid ((Blk.new w 40 #[.int .i64 (X : Int), .int .i64 (Y : Int), .slice va ws.length vc, .slice ua un uc]).alloc (.cells #[] 3))
  have I0 : Hid (Ints ((w.alloc (.cells #[.int .i64 (X : Int), .int .i64 (Y : Int), .slice va ws.length vc, .slice ua un uc] 40)).alloc (.cells #[] 3)) (.slice (some ⟨w.heap.size + 1, 0, none⟩) (U Y (tgm.two Y ws 0)).length 0) (U Y (tgm.two Y ws 0))) := Lib.hid (by
    have e : U Y (tgm.two Y ws 0) = [] := by simp [U, tgm.two]
    rw [e]
    exact app.empty _ _ _ (Nat.zero_le _))
  have e0 : (U Y (tgm.two Y ws 0)).length = 0 := by simp [U, tgm.two]
  have HY1 := Lib.hid hY3
  have hyz : (Y : Int) ≤ 3 := by omega
  have hyn : ¬ (Y = 0) := by omega
  have hyz1 : 1 ≤ (Y : Int) := by omega
  have w9 : ws.length ≤ 9 := by rw [HLW.out]; exact Nat.mul_le_mul hX3 hY3.2
  have HB3 : Hid (Y ≤ 3) := Lib.hid (by omega)
  clear h hok hA hc hcap hmax hX3
  go_enter Try.func82, Try.ntmps82
  go_wp2_with fail
  go_loopw [5, 6] (fun ov j wr => ∃ k : Nat, k ≤ ws.length ∧ j = .int .i64 (k : Nat) ∧ (∃ b o pc, ov = .slice (some ⟨b, o, none⟩) (U Y (tgm.two Y ws k)).length pc ∧ Hid (Ints wr (.slice (some ⟨b, o, none⟩) (U Y (tgm.two Y ws k)).length pc) (U Y (tgm.two Y ws k)))) ∧ Hid (Below w.heap.size w wr) ∧ Hid (Blk wr w.heap.size 40 #[.int .i64 (X : Int), .int .i64 (Y : Int), .slice va ws.length vc, .slice ua un uc])) (fun _ j _ => ws.length - (intOf j).toNat)
  case atStart => exact ⟨0, Nat.zero_le _, rfl, ⟨w.heap.size + 1, 0, 0, by rw [e0], I0⟩, B0, K0⟩
  case round =>
    clear B0 K0 I0 e0
    obtain ⟨k, hk, rfl, ⟨b, o, pc, rfl, hI⟩, hB, hK⟩ := hrel
    obtain ⟨wi, rfl⟩ : ∃ wi : World, wi = wr := ⟨_, rfl⟩
    obtain ⟨c0, c1, c2, c3, c4⟩ := four_cells hK.out
    by_cases hlt : k < ws.length
    · have hkz : (k : Int) < (ws.length : Int) := by omega
      obtain ⟨f1, rfl⟩ := HC.out k hlt
      have f1 := below_cell hB.out _ _ f1
      have HLT := Lib.hid hlt
      by_cases hw : 0 < wt ws k
      · have HY2 := Lib.hid (tgm.two_yes (Y := Y) hw)
        have dq : (wt ws k == 0) = false := by simp; omega
        obtain ⟨n, hn⟩ : ∃ n : Nat, k % Y = n := ⟨_, rfl⟩
        have hnn : (k : Int) % (Y : Int) = (n : Int) := by rw [← hn]; simp
        rw [hn] at HY2
        have HNB : Hid (n < Y) := Lib.hid (by
          rw [← hn]
          exact Nat.mod_lt _ (by have := HY1.out; omega))
        have HML : Hid (∀ x ∈ tgm.two Y ws k, 0 ≤ x ∧ x < (Y : Int)) := Lib.hid (two_lt (by have := HY1.out; omega))
        have n3 : n ≤ 3 := by have := HNB.out; have := HB3.out; omega
        have HPU : Hid (∀ q, q ≤ (U Y (tgm.two Y ws k)).length → (∀ j, j < q → (U Y (tgm.two Y ws k)).getD j 0 < (n : Int)) → (q < (U Y (tgm.two Y ws k)).length → (n : Int) ≤ (U Y (tgm.two Y ws k)).getD q 0) → putAt (U Y (tgm.two Y ws k)) (n : Int) q = U Y (tgm.two Y ws (k + 1))) := Lib.hid (fun q h1 h2 h3 => by
          rw [HY2.out]
          exact putAt_U HML.out ⟨Int.natCast_nonneg _, Int.ofNat_lt.2 HNB.out⟩ h1 h2 h3)
        have HCA := Lib.hid (tgu.l1put b o pc (U Y (tgm.two Y ws k)) (n : Int) wi hI.out (by have := U_len Y (tgm.two Y ws k); have := HB3.out; omega))
        generalize wt ws k = tt at *
        clear hn hw
        go_wp2_with fail
        refine HCA.out.mono ?_
        rintro e w2 ⟨b2, o2, pc2, q, h1, h2, h3, rfl, hI2, hb2⟩
        rw [HPU.out q h1 h2 h3] at hI2 ⊢
        have I2 := Lib.hid hI2
        have B2 := Lib.hid (below_tr hB.out hb2)
        have K2 := Lib.hid (hK.out.below hb2)
        clear h1 h2 h3 hI2 hb2 hI hB hK HCA HPU c0 c1 c2 c3 c4 f1
        go_wp2_with fail
        go_roundw
        case rel => exact ⟨k + 1, by have := HLT.out; omega, by go_num, ⟨b2, o2, pc2, rfl, I2⟩, B2, K2⟩
        case measure => have := HLT.out; simp [intOf]; omega
      · have HY2 := Lib.hid (tgm.two_no (Y := Y) hw)
        have dq : (wt ws k == 0) = true := by have := HWB.out k; simp; omega
        rw [← HY2.out] at hI
        generalize wt ws k = tt at *
        clear hw
        go_wp2_with fail
        go_roundw
        case rel => exact ⟨k + 1, by have := HLT.out; omega, by go_num, ⟨b, o, pc, by rw [HY2.out], hI⟩, hB, hK⟩
        case measure => have := HLT.out; simp [intOf]; omega
    · have hkz : ¬ (k : Int) < (ws.length : Int) := by omega
      have HKE : Hid (k = X * Y) := Lib.hid (by have := HLW.out; omega)
      rw [HKE.out] at hI
      go_wp2_with fail
      go_ret
      exact ⟨_, rfl, by rw [HKE.out]; exact hI.out, hB.out⟩


set_option maxRecDepth 100000 in
set_option maxHeartbeats 8000000 in
theorem spec_any (x y : Int) (v : Value) (ws : List Int) (u : Value) (xss : List (List Int)) (w : World) (h : game.GV w v ws u xss) (hn : ws.length ≤ 1048576) (hm : total xss ≤ 1048576) :
    Calls Try.prog 26 #[.agg #[.int .i64 x, .int .i64 y, v, u]] w fun e w' => ∃ a r, e = .returned (.tuple #[.agg #[.int .i64 (res x y ws xss).x, .int .i64 (res x y ws xss).y, a, r], .bool (res x y ws xss).ok]) ∧ game.GV w' a (res x y ws xss).ws r (res x y ws xss).rows ∧ Below w.heap.size w w' := by
  obtain ⟨va, vn, vc, ua, un, uc, rfl, rfl⟩ := h.shape
  have H := Lib.hid h
  have K1 := Lib.hid ((Blk.new w 40 #[.int .i64 x, .int .i64 y, .slice va vn vc, .slice ua un uc]).alloc (.cells #[.int .i64 0, .int .i64 0, .slice none 0 0, .slice none 0 0] 40))
  have R1 : Hid (Blk ((w.alloc (.cells #[.int .i64 x, .int .i64 y, .slice va vn vc, .slice ua un uc] 40)).alloc (.cells #[.int .i64 0, .int .i64 0, .slice none 0 0, .slice none 0 0] 40)) (w.heap.size + 1) 40 #[.int .i64 0, .int .i64 0, .slice none 0 0, .slice none 0 0]) := Lib.hid (by
    have := Blk.new (w.alloc (.cells #[.int .i64 x, .int .i64 y, .slice va vn vc, .slice ua un uc] 40)) 40 #[.int .i64 0, .int .i64 0, .slice none 0 0, .slice none 0 0]
    simpa using this)
  have B0 := Lib.hid (below_al (below_al (Below.refl w.heap.size w) (.cells #[.int .i64 x, .int .i64 y, .slice va vn vc, .slice ua un uc] 40)) (.cells #[.int .i64 0, .int .i64 0, .slice none 0 0, .slice none 0 0] 40))
  have HC := Lib.hid (gval.spec_any x y _ ws _ xss _ (h.below B0.out) hn hm)
  obtain ⟨c0, c1, c2, c3, c4⟩ := four_cells K1.out
  clear h
  by_cases hok : okGame x y ws xss
  · rw [gameB_yes hok] at HC
    rw [res_yes hok]
    obtain ⟨X, rfl⟩ : ∃ X : Nat, x = X := ⟨x.toNat, by have := hok.1.1; omega⟩
    obtain ⟨Y, rfl⟩ : ∃ X : Nat, y = X := ⟨y.toNat, by have := hok.1.2; omega⟩
    simp only [Int.toNat_natCast]
    have HU0 : Hid (∀ W, Below w.heap.size w W → Calls Try.prog 82 #[.agg #[.int .i64 (X : Int), .int .i64 (Y : Int), .slice va vn vc, .slice ua un uc], .int .i64 0] W fun e w' => ∃ u, e = .returned u ∧ Ints w' u (fs X Y ws) ∧ Below W.heap.size W w') := Lib.hid (fun W hW => used0 X Y _ ws _ xss W (H.out.below hW) hok)
    have HU1 : Hid (∀ W, Below w.heap.size w W → Calls Try.prog 82 #[.agg #[.int .i64 (X : Int), .int .i64 (Y : Int), .slice va vn vc, .slice ua un uc], .int .i64 1] W fun e w' => ∃ u, e = .returned u ∧ Ints w' u (ss X Y ws) ∧ Below W.heap.size W w') := Lib.hid (fun W hW => used1 X Y _ ws _ xss W (H.out.below hW) hok)
    have HAS : Hid (∀ W f s, Below w.heap.size w W → Ints W f (fs X Y ws) → Ints W s (ss X Y ws) → Calls Try.prog 72 #[.agg #[.int .i64 (X : Int), .int .i64 (Y : Int), .slice va vn vc, .slice ua un uc], f, s] W fun e w' => ∃ a r, e = .returned (.agg #[.int .i64 ((fs X Y ws).length : Nat), .int .i64 ((ss X Y ws).length : Nat), a, r]) ∧ game.GV w' a (wts (Y : Int) (fs X Y ws) (ss X Y ws) ws ((fs X Y ws).length * (ss X Y ws).length)) r (make.rowsOf (N (Y : Int) (fs X Y ws) (ss X Y ws) xss) ((fs X Y ws).length * (ss X Y ws).length)) ∧ OwnInts w' W.heap.size w'.heap.size a (wts (Y : Int) (fs X Y ws) (ss X Y ws) ws ((fs X Y ws).length * (ss X Y ws).length)) ∧ OwnRows w' W.heap.size w'.heap.size r (make.rowsOf (N (Y : Int) (fs X Y ws) (ss X Y ws) xss) ((fs X Y ws).length * (ss X Y ws).length)) ∧ Below W.heap.size W w') := Lib.hid (fun W f s hW hf hs => by
      refine (gask.l4ask X Y _ ws _ xss f s (fs X Y ws) (ss X Y ws) W (H.out.below hW) hf hs hok (ok_ask hok)).mono ?_
      rintro e w' ⟨a, r, rfl, ho, hr, hb⟩
      exact ⟨a, r, rfl, ⟨ho.ints, hr.rows⟩, ho, hr, hb⟩)
    clear hok
    go_enter Try.func26, Try.ntmps26
    go_wp2_with fail
    refine HC.out.mono ?_
    rintro e w1 ⟨rfl, hb⟩
    have B1 := Lib.hid (below_tr B0.out hb)
    have K2 := Lib.hid (K1.out.below hb)
    have R2 := Lib.hid (R1.out.below hb)
    clear c0 c1 c2 c3 c4 hb HC K1 R1 B0
    obtain ⟨c0, c1, c2, c3, c4⟩ := four_cells K2.out
    have hne : w.heap.size + 1 ≠ w.heap.size := by omega
    have bd : Below w1.heap.size w1 w1.drew := below_dr (Below.refl _ _)
    have BD := Lib.hid (below_tr B1.out bd)
    go_wp2_with fail
    go_region_held3 (fun w' => w'.cell? ⟨w.heap.size, 0, none⟩ = some (.int .i64 (X : Int)) ∧ w'.cell? ⟨w.heap.size, 1, none⟩ = some (.int .i64 (Y : Int)) ∧ w'.cell? ⟨w.heap.size, 2, none⟩ = some (.slice va vn vc) ∧ w'.cell? ⟨w.heap.size, 3, none⟩ = some (.slice ua un uc))
      ((first | (with_reducible exact tgo.keepS K2.out bd) | (with_reducible exact tgo.keepS K2.out hq1) | (with_reducible exact tgo.keepS K2.out hq2) | (with_reducible exact tgo.keepS K2.out hq3) | (refine tgo.setS hne _ _ (tgo.setS hne _ _ (tgo.setS hne _ _ (tgo.setS hne _ _ ?_))); with_reducible exact tgo.keepS K2.out hq3)))
      (first
        | (go_at_call 82; (with_reducible refine (HU0.out _ BD.out).mono ?_); rintro e wq1 ⟨f1, rfl, hf1, hb1⟩; have hq1 := below_tr bd hb1)
        | (go_at_call 82; (with_reducible refine (HU1.out _ (below_tr B1.out hq1)).mono ?_); rintro e wq2 ⟨s1, rfl, hs1, hb2⟩; have hq2 := below_tr hq1 hb2)
        | (go_at_call 72; (with_reducible refine (HAS.out _ _ _ (below_tr B1.out hq2) (hf1.below hb2) hs1).mono ?_); rintro e wq3 ⟨ga, gr, rfl, hgv, hoa, hor, hb3⟩; obtain ⟨aa, an, ac, ra, rn, rc, rfl, rfl⟩ := hgv.shape; have hq3 := below_tr hq2 hb3; have R5 := R2.out.below hq3; obtain ⟨r0, r1, r2, r3, r4⟩ := four_cells R5; have rf : ∀ k, wq3.frozen? ⟨w.heap.size + 1, k, none⟩ = false := fun k => Joins.unfrozen_of_block R5 k))
    have hz1 := R2.out.lt
    have hz2 := hq2.size
    have BW := Lib.hid (below_tr B1.out hq3)
    have HA := Lib.hid hoa
    have HR := Lib.hid hor
    clear hgv hoa hor hb1 hb2 hb3 hq1 hq2 hq3 hf1 hs1 bd c0 c1 c2 c3 c4
    go_wp2_with fail
    refine bodyPost_ret (v := .tuple #[.agg #[.int .i64 ((fs X Y ws).length : Nat), .int .i64 ((ss X Y ws).length : Nat), .slice aa an ac, .slice ra rn rc], .bool true]) (by simp [results, Try.results26, go_sem, r0, r1, r2, r3]) rfl ?_
    refine ⟨_, _, rfl, ⟨?_, ?_⟩, ?_⟩
    · refine (HA.out.wrote (S := fun p => p.block < wq2.heap.size) ?_ (fun p hp => .inl hp)).ints
      repeat (first | exact Wrote.refl _ _ | refine Wrote.setCell ?_ (by first | omega | (simp; omega)) _)
    · refine (HR.out.wrote (S := fun p => p.block < wq2.heap.size) ?_ (fun p hp => .inl hp)).rows
      repeat (first | exact Wrote.refl _ _ | refine Wrote.setCell ?_ (by first | omega | (simp; omega)) _)
    · repeat (first | (with_reducible exact BW.out) | refine Below.setCell ?_ (by simp <;> omega) _)
  · rw [gameB_no hok] at HC
    rw [res_no hok]
    clear hok
    go_enter Try.func26, Try.ntmps26
    go_wp2_with fail
    refine HC.out.mono ?_
    rintro e w1 ⟨rfl, hb⟩
    have B1 := Lib.hid (below_tr B0.out hb)
    have R2 := Lib.hid (R1.out.below hb)
    obtain ⟨r0, r1, r2, r3, r4⟩ := four_cells R2.out
    have rf : ∀ k, w1.frozen? ⟨w.heap.size + 1, k, none⟩ = false := fun k => Joins.unfrozen_of_block R2.out k
    clear c0 c1 c2 c3 c4 hb HC K1 R1 B0
    go_wp2_with fail
    refine bodyPost_ret (v := .tuple #[.agg #[.int .i64 0, .int .i64 0, .slice none 0 0, .slice none 0 0], .bool false]) (by simp [results, Try.results26, go_sem, r0, r1, r2, r3]) rfl ?_
    refine ⟨_, _, rfl, ⟨Ints.nil _, IRows.nil _⟩, ?_⟩
    repeat (first | (with_reducible exact B1.out) | refine Below.setCell ?_ (by simp <;> omega) _)

end Go.Proofs.Ytimfnhejiiagmaa.tgs
