/- Lists of Rules in memory of their own: the law's copy. -/
import Derived.Test.YtiigfhigmdjooaaRls
import Derived.Deep.OwnRows
namespace Go.Proofs.Ytiigfhigmdjooaa.rls
open Go.RowKit Go.Deep Go.Proofs.Ytiigfhigmdjooaa.base
open Go.Proofs.Ytiigfhigmdjooaa.ints (ret_int infoInt infoInts)
open Go.Proofs.Ytiigfhigmdjooaa.rws (total)
open Go.Proofs.Ytiigfhigmdjooaa.rule (RV OR)

/-- the blocks: the row's own one, and behind it each Rule's, in a range of its own -/
structure Rowed (w : World) (g n : Nat) (rs : List R3) (k : Nat) (q : Nat → Value) (lo : Nat → Nat) : Prop where
  row : w.rowIs g 88 (n * 3) q
  head : g < lo 0
  asc : ∀ i, i < k → lo i ≤ lo (i + 1)
  top : lo k ≤ w.heap.size
  each : ∀ i (hi : i < rs.length), i < k → OR w (lo i) (lo (i + 1)) (q (i * 3)) rs[i].f (q (i * 3 + 1)) rs[i].k (q (i * 3 + 2)) rs[i].s
theorem Rowed.lo_le {w : World} {g n : Nat} {rs : List R3} {k : Nat} {q : Nat → Value} {lo : Nat → Nat} (h : Rowed w g n rs k q lo) : ∀ i, i ≤ k → lo 0 ≤ lo i
  | 0, _ => Nat.le_refl _
  | i + 1, hi => Nat.le_trans (h.lo_le i (by omega)) (h.asc i (by omega))
structure OwnRls (w : World) (B T : Nat) (v : Value) (rs : List R3) : Prop where
  ex : ∃ (g : Nat) (q : Nat → Value) (lo : Nat → Nat), v = .slice (some ⟨g, 0, none⟩) rs.length rs.length ∧ Rowed w g rs.length rs rs.length q lo ∧ B ≤ g ∧ lo rs.length ≤ T
  small : rs.length ≤ maxLen
theorem Rowed.rls {w : World} {g : Nat} {rs : List R3} {q : Nat → Value} {lo : Nat → Nat} (h : Rowed w g rs.length rs rs.length q lo) (hm : rs.length ≤ maxLen) : Rls w (.slice (some ⟨g, 0, none⟩) rs.length rs.length) rs := by
  refine ⟨_, g, 0, rs.length, rfl, Nat.le_refl _, hm, fun _ => rfl, fun k hk => ?_⟩
  have ho := (h.each k hk hk).view
  obtain ⟨a0, a1, a2, a3, a4, a5, a6, a7, a8, e0, e1, e2⟩ := ho.shape
  have c0 := h.row.cell (i := k * 3) (by omega)
  have c1 := h.row.cell (i := k * 3 + 1) (by omega)
  have c2 := h.row.cell (i := k * 3 + 2) (by omega)
  rw [e0] at c0
  rw [e1] at c1
  rw [e2] at c2
  rw [e0, e1, e2] at ho
  rw [Nat.zero_add]
  exact ⟨a0, a1, a2, a3, a4, a5, a6, a7, a8, c0, c1, c2, ho⟩
theorem OwnRls.view {w : World} {B T : Nat} {v : Value} {rs : List R3} (h : OwnRls w B T v rs) : Rls w v rs := by
  obtain ⟨⟨g, q, lo, rfl, hr, _, _⟩, hm⟩ := h
  exact hr.rls hm
theorem OwnRls.mono {w : World} {B B' T T' : Nat} {v : Value} {rs : List R3} (h : OwnRls w B T v rs) (hB : B' ≤ B) (hT : T ≤ T') : OwnRls w B' T' v rs := by
  obtain ⟨⟨g, q, lo, rfl, hr, h1, h2⟩, hm⟩ := h
  exact ⟨⟨g, q, lo, rfl, hr, by omega, by omega⟩, hm⟩
theorem OwnRls.keep {w w' : World} {B T : Nat} {v : Value} {rs : List R3} (h : OwnRls w B T v rs) (hb : Below w.heap.size w w') : OwnRls w' B T v rs := by
  obtain ⟨⟨g, q, lo, rfl, hr, h1, h2⟩, hm⟩ := h
  exact ⟨⟨g, q, lo, rfl, ⟨hr.row.of_block (hb.block _ hr.row.lt), hr.head, hr.asc, Nat.le_trans hr.top hb.size, fun i hi hk => (hr.each i hi hk).keep hb⟩, h1, h2⟩, hm⟩

theorem infoRule : (Try.prog.info? 88).map (fun i => (i.zero, i.size, i.bytes)) = some (some (.agg #[.slice none 0 0, .slice none 0 0, .slice none 0 0]), 3, 72) := by kernel_rfl
theorem mkRules (n : Nat) (h : n ≤ 1048576) (w : World) : (Instr.makeSlice 32 (.int .i64 (n : Int)) (.int .i64 (n : Int))).run Try.prog w = .ok (.slice (some ⟨w.heap.size, 0, none⟩) n n) (w.alloc (.cells (madeCells #[.slice none 0 0, .slice none 0 0, .slice none 0 0] (n * 3)) 88)) := by
  obtain ⟨i0, hi, hz0, hz1, hz2⟩ := info_parts infoRule
  have := run_make (P := Try.prog) w 32 88 i0 (.agg #[.slice none 0 0, .slice none 0 0, .slice none 0 0]) Try.underlying32 hi hz0 .i64 .i64 n n (by omega) (Int.le_refl _) (by rw [hz2]; omega) (by omega)
  simp only [Int.toNat_natCast, hz1] at this
  exact this
theorem rowIs_made3 (w : World) (n : Nat) : (w.alloc (.cells (madeCells #[.slice none 0 0, .slice none 0 0, .slice none 0 0] (n * 3)) 88)).rowIs w.heap.size 88 (n * 3) (fun _ => .slice none 0 0) :=
  ⟨_, blk_alloc_new _ _, size_madeCells _ _, fun i hi => by
    have h2 : i % 3 = 0 ∨ i % 3 = 1 ∨ i % 3 = 2 := by omega
    rcases h2 with e | e | e <;> simp [madeCells, hi, e]⟩


set_option maxRecDepth 100000 in
set_option maxHeartbeats 2000000 in
theorem to_any (v : Value) (rs : List R3) (w : World) (h : Rls w v rs) (hl : rs.length ≤ 1048576) (hn : ∀ k (hk : k < rs.length), rs[k].f.length ≤ 1048576 ∧ total rs[k].k ≤ 1048576 ∧ total rs[k].s ≤ 1048576) :
    Calls Try.prog 19 #[v] w fun e w' => ∃ u, e = .returned u ∧ OwnRls w' w.heap.size w'.heap.size u rs ∧ Below w.heap.size w w' := by
  obtain ⟨A, b, o, cap, rfl, hcap, hmax, hA, hc⟩ := h
  have hmk := mkRules rs.length hl
  have HC := Lib.hid hc
  have HA := Lib.hid hA
  have HT := Lib.hid hn
  have HM : Hid (rs.length ≤ maxLen) := Lib.hid (Nat.le_trans hcap hmax)
  have hm64 : (rs.length : Int) ≤ 9223372036854775807 := by omega
  clear hc hA hcap hmax hn hl
  go_enter Try.func19, Try.ntmps19
  go_wp2_with fail
  clear hmk
  go_loopw [4] (fun iv wr => ∃ (k : Nat) (q : Nat → Value) (lo : Nat → Nat), k ≤ rs.length ∧ iv = .int .i64 k ∧ Hid (Below w.heap.size w wr) ∧ Hid (Rowed wr w.heap.size rs.length rs k q lo)) (fun iv _ => rs.length - (intOf iv).toNat)
  case atStart => exact ⟨0, fun _ => .slice none 0 0, fun _ => w.heap.size + 1, Nat.zero_le _, rfl, Lib.hid ((Below.refl _ _).alloc (Nat.le_refl _) _), Lib.hid ⟨rowIs_made3 w _, by omega, fun i hi => Nat.le_refl _, by simp, fun i hi hk => absurd hk (by omega)⟩⟩
  case round =>
    obtain ⟨k, q, lo, hk, rfl, hB, hR⟩ := hrel
    obtain ⟨wo, rfl⟩ : ∃ wo : World, wo = wr := ⟨_, rfl⟩
    by_cases hlt : k < rs.length
    · have hkz : (k : Int) < (rs.length : Int) := by omega
      obtain ⟨a0, a1, a2, a3, a4, a5, a6, a7, a8, c0, c1, c2, hr⟩ := (HC.out k hlt).below hB.out
      have e1 := HA.out (by omega)
      subst e1
      have HTO := Lib.hid (rule.to_any _ rs[k].f _ rs[k].k _ rs[k].s wo hr (HT.out k hlt).1 (HT.out k hlt).2.1 (HT.out k hlt).2.2)
      clear hr
      go_wp2_with fail
      refine HTO.out.mono ?_
      rintro e w3 ⟨sv, u, nv, rfl, hO, hb⟩
      have h1 := hR.out.row.of_block (hb.block _ hR.out.row.lt)
      have h2 := h1.cell (i := k * 3) (by omega)
      have h3 := h1.cell (i := k * 3 + 1) (by omega)
      have h4 := h1.cell (i := k * 3 + 2) (by omega)
      have hf := h1.frozen
      have HB := Lib.hid (below_tr hB.out hb)
      have HR1 := Lib.hid h1
      have HO := Lib.hid hO
      have HS := Lib.hid hb.size
      have HEA := Lib.hid (fun i hi hk' => (hR.out.each i hi hk').keep hb)
      obtain ⟨d0, d1, d2, d3, d4, d5, d6, d7, d8, rfl, rfl, rfl⟩ := hO.view.shape
      clear hb h1 c0 c1 c2 hO
      go_wp2_with fail
      go_roundw
      case rel =>
        have htop := hR.out.top
        have hs := HS.out
        have hloh : ∀ i, i ≤ k → w.heap.size < lo i := fun i hi => Nat.lt_of_lt_of_le hR.out.head (hR.out.lo_le i hi)
        refine ⟨k + 1, fun j => if j = k * 3 + 2 then .slice d6 d7 d8 else if j = k * 3 + 1 then .slice d3 d4 d5 else if j = k * 3 then .slice d0 d1 d2 else q j, fun i => if i ≤ k then lo i else w3.heap.size, by omega, by go_num, Lib.hid (((HB.out.setCell (Nat.le_refl _) _).setCell (Nat.le_refl _) _).setCell (Nat.le_refl _) _), Lib.hid ⟨?_, ?_, ?_, ?_, ?_⟩⟩
        · exact (((HR1.out.set (k * 3) _).set (k * 3 + 1) _).set (k * 3 + 2) _)
        · rw [if_pos (Nat.zero_le _)]; exact hR.out.head
        · intro i hi
          by_cases e : i = k
          · subst e; rw [if_pos (Nat.le_refl _), if_neg (by omega)]; omega
          · rw [if_pos (by omega), if_pos (by omega)]; exact hR.out.asc i (by omega)
        · rw [if_neg (by omega)]; simp [World.setCell]
        · intro i hi hk'
          have hw : Wrote (fun p => p.block = w.heap.size) w3 (((w3.setCell ⟨w.heap.size, k * 3, none⟩ (.slice d0 d1 d2)).setCell ⟨w.heap.size, k * 3 + 1, none⟩ (.slice d3 d4 d5)).setCell ⟨w.heap.size, k * 3 + 2, none⟩ (.slice d6 d7 d8)) :=
            Wrote.setCell (S := fun p => p.block = w.heap.size) (Wrote.setCell (S := fun p => p.block = w.heap.size) (Wrote.setCell (S := fun p => p.block = w.heap.size) (Wrote.refl _ _) rfl _) rfl _) rfl _
          by_cases e : i = k
          · subst e
            rw [if_pos (Nat.le_refl _), if_neg (by omega : ¬ i + 1 ≤ i)]
            have ho := (HO.out.mono (B' := lo i) (T' := w3.heap.size) htop (Nat.le_refl _)).wrote hw (fun p hp => .inl (by have e : p.block = w.heap.size := hp; have := hloh i (Nat.le_refl _); omega))
            simpa using ho
          · rw [if_pos (by omega), if_pos (by omega), if_neg (by omega), if_neg (by omega), if_neg (by omega), if_neg (by omega), if_neg (by omega), if_neg (by omega), if_neg (by omega), if_neg (by omega), if_neg (by omega)]
            exact (HEA.out i hi (by omega)).wrote hw (fun p hp => .inl (by have e : p.block = w.heap.size := hp; have := hloh i (by omega); omega))
      case measure => simp [intOf]; omega
    · have hkz : ¬ (k : Int) < (rs.length : Int) := by omega
      obtain rfl : k = rs.length := by omega
      go_wp2_with fail
      go_ret
      exact ⟨_, rfl, ⟨⟨_, q, lo, rfl, hR.out, Nat.le_refl _, hR.out.top⟩, HM.out⟩, hB.out⟩


end Go.Proofs.Ytiigfhigmdjooaa.rls
