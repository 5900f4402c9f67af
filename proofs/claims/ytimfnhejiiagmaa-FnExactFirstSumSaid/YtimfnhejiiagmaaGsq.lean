/- l3Pairs of the model. -/
import Derived.Test.YtimfnhejiiagmaaQpr
namespace Go.Proofs.Ytimfnhejiiagmaa.gsq
open Go.RowKit Go.Deep Go.Proofs.Ytimfnhejiiagmaa.base
open Go.Proofs.Ytimfnhejiiagmaa.prs Go.Proofs.Ytimfnhejiiagmaa.pro
open Go.Proofs.Ytimfnhejiiagmaa.prt (infoA2 two_cells)
open Go.Proofs.Ytimfnhejiiagmaa.qpr (row upto row_start row_succ row_len upto_succ upto_len)


set_option maxRecDepth 100000 in
set_option maxHeartbeats 4000000 in
theorem l3pairs (n : Nat) (hn : n ≤ 3) (w : World) :
    Calls Try.prog 133 #[.int .i64 (n : Int)] w fun e w' => ∃ u, e = .returned u ∧ w'.ownsRow w.heap.size 26 2 u (upto n n).length (pcs (upto n n)) ∧ Below w.heap.size w w' := by
  obtain ⟨i0, hi0, hz0, hz1, hz2⟩ := info_parts infoA2
  have n3 : (n : Int) ≤ 3 := by omega
  have HN := Lib.hid hn
  have hS0 : Hid ((w.alloc (.cells #[] 26)).ownsRow w.heap.size 26 2 (.slice (some ⟨w.heap.size, 0, none⟩) 0 0) (upto n 0).length (pcs (upto n 0))) := Lib.hid (by
    have := World.ownsRow_made (base := w.heap.size) (e := 26) (size := 2) w #[] 0 (Nat.le_refl _) (Nat.zero_le _) rfl
    simpa [upto, pcs] using this)
  clear hn
  go_enter Try.func133, Try.ntmps133
  go_wp2_with fail
  go_loopw [3, 4, 5] (fun vb s z5 wr => ∃ a : Nat, a ≤ n ∧ s = .int .i64 (a : Nat) ∧ (∃ vv, vb = vv ∧ Hid (wr.ownsRow w.heap.size 26 2 vv (upto n a).length (pcs (upto n a)))) ∧ (∃ z, z5 = z) ∧ Hid (Below w.heap.size w wr)) (fun _ s _ _ => n - (intOf s).toNat)
  case atStart => exact ⟨0, Nat.zero_le _, rfl, ⟨_, rfl, hS0⟩, ⟨_, rfl⟩, below_al (Below.refl _ _) _⟩
  case round =>
    clear hS0
    obtain ⟨a, ha, rfl, ⟨vv, hvv, hO⟩, ⟨z5, rfl⟩, hBW⟩ := hrel
    obtain ⟨wo, rfl⟩ : ∃ wo : World, wo = wr := ⟨_, rfl⟩
    subst hvv
    by_cases hlt : a < n
    · have hkz : (a : Int) < (n : Int) := by omega
      have HLT := Lib.hid hlt
      have hO0 : Hid (wo.ownsRow w.heap.size 26 2 u3 (upto n a ++ row a (a + 1)).length (pcs (upto n a ++ row a (a + 1)))) := Lib.hid (by rw [row_start, List.append_nil]; exact hO.out)
      clear hO
      go_wp2_with fail
      go_loopw [3, 5] (fun vb s wr => ∃ b : Nat, b ≤ n ∧ a + 1 ≤ b ∧ s = .int .i64 (b : Nat) ∧ (∃ vv, vb = vv ∧ Hid (wr.ownsRow w.heap.size 26 2 vv (upto n a ++ row a b).length (pcs (upto n a ++ row a b)))) ∧ Hid (Below w.heap.size w wr)) (fun _ s _ => n - (intOf s).toNat)
      case atStart => exact ⟨a + 1, by have := HLT.out; omega, Nat.le_refl _, by go_num, ⟨_, rfl, hO0⟩, hBW⟩
      case round =>
        clear hO0
        obtain ⟨b, hb, hab, rfl, ⟨vv, hvv, hO⟩, hBI⟩ := hrel
        obtain ⟨wi, rfl⟩ : ∃ wi : World, wi = wr := ⟨_, rfl⟩
        subst hvv
        by_cases hlb : b < n
        · have hjz : (b : Int) < (n : Int) := by omega
          have HLB := Lib.hid hlb
          have HG : Hid ((upto n a ++ row a b).length ≤ 16) := Lib.hid (by rw [List.length_append, row_len]; have := upto_len n HN.out a; have := HN.out; have := HLT.out; omega)
          have O2 : Hid ((wi.alloc (.cells #[.int .i64 (a : Int), .int .i64 (b : Int)] 26)).ownsRow w.heap.size 26 2 u3 (upto n a ++ row a b).length (pcs (upto n a ++ row a b))) := Lib.hid (app.owns_below hO.out (below_al (Below.refl _ _) _))
          have hsz : w.heap.size ≤ wi.heap.size := hBI.out.size
          have HP : Hid (upto n a ++ row a (b + 1) = (upto n a ++ row a b) ++ [((a : Int), (b : Int))]) := Lib.hid (by rw [row_succ hab, List.append_assoc])
          generalize upto n a ++ row a b = ps at *
          go_wp2_with (at_builtin; go_must (refine wpList_append_own _ rfl (.tmp 19) (.tmp 23) 71 rfl w.heap.size 26 i0 (.agg #[.int .i64 0, .int .i64 0]) 2 16 Try.underlying71 hi0 hz0 hz1 hz2 rfl (by decide) _ _ _ rfl O2.out ⟨wi.heap.size, 0, none⟩ 1 1 [.int .i64 (a : Int), .int .i64 (b : Int)] rfl rfl ?d1 ?d2 ?d3 ?d4 ?d5 ?_))
          try (case d1 => first | exact two_at _ _ _ _ | (intro q u hq; have h5 := two_at wi (.int .i64 (a : Int)) (.int .i64 (b : Int)) 26 q u hq; rw [opn.add_none] at h5; simpa using h5))
          case d2 => intro u hu; simp at hu; rcases hu with rfl | rfl <;> rfl
          case d3 => unfold maxLen; have := HG.out; omega
          case d4 => have := HG.out; omega
          try (case d5 => first | omega | (simp; omega))
          intro v3 w3 hown3 hgrow3 _
          have B3 : Hid (Below w.heap.size w w3) := Lib.hid ((below_al hBI.out _).grown hgrow3 (by simp; omega) (fun q hq => (O2.out.lt q hq).1))
          have O3 : Hid (w3.ownsRow w.heap.size 26 2 v3 (upto n a ++ row a (b + 1)).length (pcs (upto n a ++ row a (b + 1)))) := Lib.hid (by have h5 := hown3; rw [pcs_snoc] at h5; rw [HP.out, List.length_append]; exact h5)
          clear hown3 hgrow3
          go_wp2_with fail
          go_roundw
          case rel => exact ⟨b + 1, by have := HLB.out; omega, by omega, by go_num, ⟨_, rfl, O3⟩, B3⟩
          case measure => have := HLB.out; simp [intOf]; omega
        · obtain rfl : b = n := by omega
          have O4 : Hid (wi.ownsRow w.heap.size 26 2 u3 (upto b (a + 1)).length (pcs (upto b (a + 1)))) := Lib.hid (by rw [upto_succ]; exact hO.out)
          go_wp2_with fail
          go_roundw
          case rel => exact ⟨a + 1, by have := HLT.out; omega, by go_num, ⟨_, rfl, O4⟩, ⟨_, rfl⟩, hBI⟩
          case measure => have := HLT.out; simp [intOf]; omega
    · obtain rfl : a = n := by omega
      have HO := hO
      go_wp2_with fail
      go_ret
      exact ⟨_, rfl, HO.out, hBW.out⟩

end Go.Proofs.Ytimfnhejiiagmaa.gsq
