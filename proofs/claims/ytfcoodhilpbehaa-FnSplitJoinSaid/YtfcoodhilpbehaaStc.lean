/- SplitString of the program: a range over partsBetween. -/
import Derived.Test.YtfcoodhilpbehaaStb
import Derived.RangeFuncNested
import Derived.RangeFuncBound
import Derived.RangeFuncCalls
import Derived.RangeFuncLeaves
import Derived.RangeFuncBox
import Derived.Shelf.Abstract
import Derived.Shelf.RegionOpen
import Derived.OwnWalkIn
import Derived.TacticsInMore
import Derived.LoopNIn
import Derived.LoopIn
import Derived.Maps.AppendAt
namespace Go.Proofs.Ytfcoodhilpbehaa.stc
open Go.RowKit Go.Deep Go.Shelf Go.Proofs.Ytfcoodhilpbehaa.base
open Go.Proofs.Ytfcoodhilpbehaa.sta Go.Proofs.Ytfcoodhilpbehaa.stb
attribute [local go_sem] Oper.semAt_some

theorem st_mono (s : ByteArray) (b : UInt8) (k : Nat) : ∀ d, (st s b k).1 <+: (st s b (k + d)).1
  | 0 => List.prefix_refl _
  | d + 1 => by
    refine (st_mono s b k d).trans ?_
    rw [← Nat.add_assoc]
    by_cases h : s.data.toList[k + d]? = some b
    · rw [st_hit h]; exact List.prefix_append _ _
    · rw [st_miss h]; exact List.prefix_refl _
theorem st_prefix (s : ByteArray) (b : UInt8) (k : Nat) (hk : k ≤ s.size) : (st s b k).1 <+: split s b := by
  have := st_mono s b k (s.size - k)
  rw [show k + (s.size - k) = s.size by omega] at this
  exact this.trans (List.prefix_append _ _)
/-- two blocks lie as they lay -/
def K2 (a b : Nat) (W W' : World) : Prop := W'.heap[a]? = W.heap[a]? ∧ W'.heap[b]? = W.heap[b]?
theorem K2.refl (a b : Nat) (W : World) : K2 a b W W := ⟨rfl, rfl⟩
theorem K2.trans {a b : Nat} {A B C : World} (h : K2 a b A B) (k : K2 a b B C) : K2 a b A C := ⟨k.1.trans h.1, k.2.trans h.2⟩
theorem K2.drew {a b : Nat} {A B : World} (h : K2 a b A B) : K2 a b A B.drew := h
theorem K2.put {a b : Nat} {w : World} (ha : a < w.heap.size) (hb : b < w.heap.size) (W : World) (l : Nat) (o o' : Obj) (hl : w.heap.size ≤ l) (_ : W.heap[l]? = some o) (_ : o.isCells = false) (_ : o.isWalk = false) : K2 a b W (W.putObj l o') :=
  ⟨World.putObj_heap_other (by omega), World.putObj_heap_other (by omega)⟩
theorem cell_of {W W' : World} {b : Nat} (h : W'.heap[b]? = W.heap[b]?) : W'.cell? ⟨b, 0, none⟩ = W.cell? ⟨b, 0, none⟩ := by simp only [World.cell?, h]
theorem mixed : Try.prog.follows Departure.mixedOrders = true := by kernel_rfl

set_option maxRecDepth 100000 in
set_option maxHeartbeats 2000000 in
theorem parts1_in (F : Fence) (n : Nat) (hf : F.fn 21) (hro : F.round = none) (hn : 1 ≤ n) (l Bs Bb : Nat) (s : ByteArray) (b : UInt8) (hs : s.size ≤ 1048576) (J Jx : List ByteArray → World → Prop) (hJd : ∀ pre W, J pre W → J pre W.drew)
    (hY : ∀ pre x W, J pre W → pre.length < s.size + 1 → YieldAt F (n - 1) Try.prog l #[.string x] W fun e W' =>
      (e = .returned (.bool true) ∧ J (pre ++ [x]) W' ∧ K2 Bs Bb W W') ∨ (e = .returned (.bool false) ∧ Jx (pre ++ [x]) W'))
    (W : World) (hcs : W.cell? ⟨Bs, 0, none⟩ = some (.string s)) (hcb : W.cell? ⟨Bb, 0, none⟩ = some (.int .u8 b.toNat)) (h0 : J [] W) :
    CallsIn F n Try.prog 21 #[.func (.yield l) #[] #[], .pointer (some ⟨Bs, 0, none⟩), .pointer (some ⟨Bb, 0, none⟩)] W fun e W' => (∃ v, e = .returned v) ∧
      ((∃ ys, ys = split s b ∧ J ys W') ∨ (∃ pre, pre <+: split s b ∧ Jx pre W')) := by
  refine callsIn_of_wp Try.func21 rfl hf ?_ hro
  simp only [Try.ntmps21, List.size_toArray, List.length_cons, List.length_nil, Nat.reduceAdd, Nat.reduceSub, Array.replicate_succ, Array.replicate_zero, List.push_toArray, List.append_toArray, List.nil_append, List.cons_append]
  have hmixed := mixed
  gi_wp2
  gi_loopw [4, 5, 8] (fun fr z i wr => ∃ k f : Nat, k ≤ s.size ∧ i = .int .i64 k ∧ fr = .int .i64 f ∧ (∃ z', z = z') ∧ f ≤ k ∧ Hid (f = (st s b k).2) ∧ J (st s b k).1 wr ∧ K2 Bs Bb W wr)
    (fun _ _ i _ => s.size - (intOf i).toNat)
  case atStart => exact ⟨0, 0, Nat.zero_le _, rfl, rfl, ⟨_, rfl⟩, Nat.le_refl _, Lib.hid rfl, h0, K2.refl _ _ _⟩
  case round =>
    obtain ⟨k, f, hk, rfl, rfl, ⟨z, rfl⟩, hfk, hfe, hJs, hnx⟩ := hrel
    have c1 := (cell_of hnx.1).trans hcs
    have c2 := (cell_of hnx.2).trans hcb
    by_cases hlt : k < s.size
    · have hlz : (k : Int) < (s.size : Int) := by omega
      have hlen := (st_le s b k).2
      by_cases hb : s[k] = b
      · have hn0 : (((s[k]).toNat : Int) != (b.toNat : Int)) = false := by simp [hb]
        have HS := st_hit (s := s) (b := b) (k := k) (by rw [at_all s k hlt, hb])
        have HE := Lib.hid HS
        have HB := Lib.hid hb
        obtain ⟨fn, tmps, assign, body, hy, hR⟩ := hY _ (s.extract f k) wr.drew (hJd _ _ hJs) (by omega)
        clear hb HS hlen
        gi_wp2
        gi_region_o
        all_goals
          gi_wp2
          refine hR.mono ?_
          rintro e W3 (⟨rfl, hJ3, hk3⟩ | ⟨rfl, hJx3⟩)
          · gi_wp2
            go_roundw
            case rel => exact ⟨k + 1, k + 1, by omega, by simp, by simp, ⟨_, rfl⟩, Nat.le_refl _, Lib.hid (by rw [HE.out]), by rw [HE.out]; rw [hfe.out] at hJ3; exact hJ3, hnx.drew.trans hk3⟩
            case measure => simp [intOf]; omega
          · gi_wp2
            refine bodyPost_ret (results_none rfl _ _ _) rfl ?_
            exact ⟨⟨_, rfl⟩, .inr ⟨_, by have := st_prefix s b (k + 1) (by omega); rw [HE.out, ← hfe.out] at this; exact this, hJx3⟩⟩
      · have hn0 : (((s[k]).toNat : Int) != (b.toNat : Int)) = true := by
          rw [bne_iff_ne]
          intro e
          exact hb (UInt8.toNat_inj.1 (by omega))
        have HS := st_miss (s := s) (b := b) (k := k) (by rw [at_all s k hlt]; intro e; injection e with e; exact hb e)
        have HE := Lib.hid HS
        clear hb HS hlen
        gi_wp2
        gi_region_o
        all_goals
          gi_wp2
          go_roundw
          case rel => exact ⟨k + 1, f, by omega, by simp, rfl, ⟨_, rfl⟩, by omega, Lib.hid (by rw [HE.out]; exact hfe.out), by rw [HE.out]; exact hJd _ _ hJs, hnx.drew⟩
          case measure => simp [intOf]; omega
    · obtain rfl : k = s.size := by omega
      have hlen := (st_le s b s.size).2
      obtain ⟨fn, tmps, assign, body, hy, hR⟩ := hY _ (s.extract f s.size) wr hJs (by omega)
      clear hlen
      gi_wp2
      refine hR.mono ?_
      have HSP : Hid ((st s b s.size).1 ++ [s.extract f s.size] = split s b) := Lib.hid (by unfold split; rw [← hfe.out])
      rintro e W3 (⟨rfl, hJ3, hk3⟩ | ⟨rfl, hJx3⟩)
      · gi_wp2
        go_end0
        exact ⟨⟨_, rfl⟩, .inl ⟨_, HSP.out, hJ3⟩⟩
      · gi_wp2
        go_end0
        exact ⟨⟨_, rfl⟩, .inr ⟨_, by rw [HSP.out]; exact List.prefix_refl _, hJx3⟩⟩


end Go.Proofs.Ytfcoodhilpbehaa.stc
