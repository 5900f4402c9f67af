/- ruleBy, SumRuleBy, NamedRule of the program. -/
import Derived.Test.YtneonebgneonkaaRul
import Derived.Test.YtneonebgneonkaaStr
import Derived.Test.YtneonebgneonkaaTob
import Derived.Test.YtneonebgneonkaaInv
namespace Go.Proofs.Ytneonebgneonkaa.rby
open Go.RowKit Go.Deep Go.Proofs.Ytneonebgneonkaa.base
open Go.Proofs.Ytneonebgneonkaa.ints (ret_int)
open Go.Proofs.Ytneonebgneonkaa.play (within withinB withinB_yes withinB_no)
open Go.Proofs.Ytneonebgneonkaa.scene (three_cells)
open Go.Proofs.Ytneonebgneonkaa.rule (RV OR)

/-- the two halves of an ask list -/
def halves (xs : List Int) : List (List Int) := [[xs.getD 0 0, xs.getD 1 0], [xs.getD 2 0, xs.getD 3 0]]
/-- what holds while the operations of the region come up, in whatever order -/
structure JB (b : World) (ab ao ac sb so sc : Nat) (ra rs : List (List Int)) (L : Nat → Bool) (lo0 hi0 lo5 hi5 lo6 hi6 lo9 hi9 lo10 hi10 : Nat) (s5 s6 s7 s8 s9 s10 s11 s12 s13 s14 s15 s16 : Value) (W : World) : Prop where
  fb : Below b.heap.size b W
  fk : Blk W b.heap.size 28 (if L 12 = true then #[s5, s11, s15] else #[.slice none 0 0, .slice none 0 0, .slice none 0 0])
  f0 : L 0 = true → b.heap.size + 1 ≤ lo0 ∧ lo0 ≤ hi0 ∧ hi0 ≤ W.heap.size ∧ (s5 = .slice (some ⟨lo0, 0, none⟩) 2 2 ∧ hi0 = lo0 + 1 ∧ Blk W lo0 3 #[.int .i64 0, .int .i64 1])
  f1 : L 1 = true → s6 = .slice (some ⟨ab, ao, none⟩) 4 ac
  f2 : L 2 = true → s7 = .slice (some ⟨ab, ao, none⟩) 2 ac
  d2x1 : L 2 = true → L 1 = true
  f3 : L 3 = true → s8 = .slice (some ⟨ab, ao, none⟩) 4 ac
  f4 : L 4 = true → s9 = .slice (some ⟨ab, ao + 2, none⟩) 2 (ac - 2)
  d4x3 : L 4 = true → L 3 = true
  f5 : L 5 = true → b.heap.size + 1 ≤ lo5 ∧ lo5 ≤ hi5 ∧ hi5 ≤ W.heap.size ∧ (s10 = .slice (some ⟨lo5, 0, none⟩) 2 2 ∧ hi5 = lo5 + 1 ∧ Blk W lo5 22 #[.slice (some ⟨ab, ao, none⟩) 2 ac, .slice (some ⟨ab, ao + 2, none⟩) 2 (ac - 2)])
  d5x2 : L 5 = true → L 2 = true
  d5x4 : L 5 = true → L 4 = true
  f6 : L 6 = true → b.heap.size + 1 ≤ lo6 ∧ lo6 ≤ hi6 ∧ hi6 ≤ W.heap.size ∧ OwnRows W lo6 hi6 s11 ra
  d6x5 : L 6 = true → L 5 = true
  f7 : L 7 = true → s12 = .slice (some ⟨sb, so, none⟩) 4 sc
  f8 : L 8 = true → s13 = .slice (some ⟨sb, so, none⟩) 4 sc
  f9 : L 9 = true → b.heap.size + 1 ≤ lo9 ∧ lo9 ≤ hi9 ∧ hi9 ≤ W.heap.size ∧ (s14 = .slice (some ⟨lo9, 0, none⟩) 2 2 ∧ hi9 = lo9 + 1 ∧ Blk W lo9 22 #[.slice (some ⟨sb, so, none⟩) 4 sc, .slice (some ⟨sb, so, none⟩) 4 sc])
  d9x7 : L 9 = true → L 7 = true
  d9x8 : L 9 = true → L 8 = true
  f10 : L 10 = true → b.heap.size + 1 ≤ lo10 ∧ lo10 ≤ hi10 ∧ hi10 ≤ W.heap.size ∧ OwnRows W lo10 hi10 s15 rs
  d10x9 : L 10 = true → L 9 = true
  f11 : L 11 = true → s16 = .agg #[s5, s11, s15]
  d11x0 : L 11 = true → L 0 = true
  d11x6 : L 11 = true → L 6 = true
  d11x10 : L 11 = true → L 10 = true
  d12x11 : L 12 = true → L 11 = true
  a0x5 : L 0 = true → L 5 = true → hi0 ≤ lo5 ∨ hi5 ≤ lo0
  a0x6 : L 0 = true → L 6 = true → hi0 ≤ lo6 ∨ hi6 ≤ lo0
  a0x9 : L 0 = true → L 9 = true → hi0 ≤ lo9 ∨ hi9 ≤ lo0
  a0x10 : L 0 = true → L 10 = true → hi0 ≤ lo10 ∨ hi10 ≤ lo0
  a5x6 : L 5 = true → L 6 = true → hi5 ≤ lo6 ∨ hi6 ≤ lo5
  a5x9 : L 5 = true → L 9 = true → hi5 ≤ lo9 ∨ hi9 ≤ lo5
  a5x10 : L 5 = true → L 10 = true → hi5 ≤ lo10 ∨ hi10 ≤ lo5
  a6x9 : L 6 = true → L 9 = true → hi6 ≤ lo9 ∨ hi9 ≤ lo6
  a6x10 : L 6 = true → L 10 = true → hi6 ≤ lo10 ∨ hi10 ≤ lo6
  a9x10 : L 9 = true → L 10 = true → hi9 ≤ lo10 ∨ hi10 ≤ lo9


set_option maxRecDepth 100000 in
set_option maxHeartbeats 4000000 in
theorem ruleBy (v v' : Value) (xs ys : List Int) (w : World) (h : Ints w v xs) (h' : Ints w v' ys) (hx : xs.length = 4) (hy : ys.length = 4) :
    Calls Try.prog 74 #[v, v'] w fun e w' => ∃ sv u nv, e = .returned (.agg #[sv, u, nv]) ∧ OR w' w.heap.size w'.heap.size sv [0, 1] u (halves xs) nv [ys, ys] ∧ Below w.heap.size w w' := by
  obtain ⟨ab, ao, ac, rfl, a1, a2, hca⟩ := cll.ints h hx (by omega)
  obtain ⟨sb, so, sc, rfl, _, _, _⟩ := cll.ints h' hy (by omega)
  have A1 := Lib.hid a1
  have HA : Hid (Ints w (.slice (some ⟨ab, ao, none⟩) 2 ac) [xs.getD 0 0, xs.getD 1 0]) := Lib.hid (st3.ints_part rfl (by omega) a2 (fun k hk => by
    rw [hca k (by omega)]
    obtain rfl | rfl : k = 0 ∨ k = 1 := by omega
    · rfl
    · rfl))
  have HB : Hid (Ints w (.slice (some ⟨ab, ao + 2, none⟩) 2 (ac - 2)) [xs.getD 2 0, xs.getD 3 0]) := Lib.hid (st3.ints_part rfl (by omega) (by omega) (fun k hk => by
    rw [Nat.add_assoc, hca (2 + k) (by omega)]
    obtain rfl | rfl : k = 0 ∨ k = 1 := by omega
    · rfl
    · rfl))
  have HS := Lib.hid h'
  have HTA := Lib.hid (fun (W : World) (v : Value) (h : IRows W v (halves xs)) => tab.tableOf v (halves xs) 2 2 W h rfl (by omega) (by omega) (fun r hr => by
    obtain rfl | rfl : r = 0 ∨ r = 1 := by omega
    · rfl
    · rfl))
  have HTS := Lib.hid (fun (W : World) (v : Value) (h : IRows W v [ys, ys]) => tab.tableOf v [ys, ys] 2 4 W h rfl (by omega) (by omega) (fun r hr => by
    obtain rfl | rfl : r = 0 ∨ r = 1 := by omega
    · exact hy
    · exact hy))
  clear h h' hca a1 a2 hx hy
  go_enter Try.func74, Try.ntmps74
  go_wp2_with fail
  refine inv.start (by kernel_rfl) (fun l a' W => ∃ (lo0 hi0 lo5 hi5 lo6 hi6 lo9 hi9 lo10 hi10 : Nat) (s5 s6 s7 s8 s9 s10 s11 s12 s13 s14 s15 s16 : Value), a' = { tmps := #[.slice (some ⟨ab, ao, none⟩) 4 ac, .slice (some ⟨sb, so, none⟩) 4 sc, undef, undef, .pointer (some ⟨w.heap.size, 0, none⟩), s5, s6, s7, s8, s9, s10, s11, s12, s13, s14, s15, s16], defers := [] } ∧ l.size = 13 ∧ JB w ab ao ac sb so sc (halves xs) [ys, ys] (fun k => l.getD k false) lo0 hi0 lo5 hi5 lo6 hi6 lo9 hi9 lo10 hi10 s5 s6 s7 s8 s9 s10 s11 s12 s13 s14 s15 s16 W) ?_ ?_ ?_
  · refine ⟨0, 0, 0, 0, 0, 0, 0, 0, 0, 0, _, _, _, _, _, _, _, _, _, _, _, _, rfl, by simp, ?_⟩
    exact ⟨below_dr (below_al (Below.refl _ _) _), (Blk.new _ _ _).below (below_dr (Below.refl _ _)), fun h => by simp at h, fun h => by simp at h, fun h => by simp at h, fun h => by simp at h, fun h => by simp at h, fun h => by simp at h, fun h => by simp at h, fun h => by simp at h, fun h => by simp at h, fun h => by simp at h, fun h => by simp at h, fun h => by simp at h, fun h => by simp at h, fun h => by simp at h, fun h => by simp at h, fun h => by simp at h, fun h => by simp at h, fun h => by simp at h, fun h => by simp at h, fun h => by simp at h, fun h => by simp at h, fun h => by simp at h, fun h => by simp at h, fun h => by simp at h, fun h => by simp at h, fun h => by simp at h, fun h => by simp at h, fun h => by simp at h, fun h => by simp at h, fun h => by simp at h, fun h => by simp at h, fun h => by simp at h, fun h => by simp at h, fun h => by simp at h⟩
  · rintro l a' W i ⟨lo0, hi0, lo5, hi5, lo6, hi6, lo9, hi9, lo10, hi10, s5, s6, s7, s8, s9, s10, s11, s12, s13, s14, s15, s16, rfl, hsz, h⟩ hi
    have hlt : i < 13 := (inv.ready_lt hi).1
    obtain rfl | rfl | rfl | rfl | rfl | rfl | rfl | rfl | rfl | rfl | rfl | rfl | rfl : i = 0 ∨ i = 1 ∨ i = 2 ∨ i = 3 ∨ i = 4 ∨ i = 5 ∨ i = 6 ∨ i = 7 ∨ i = 8 ∨ i = 9 ∨ i = 10 ∨ i = 11 ∨ i = 12 := by omega
    · obtain ⟨hun, o, ho, hall⟩ := mem_ready.1 hi
      obtain rfl : _ = o := Option.some.inj ho
      have hoff : l.getD 0 false = false := inv.off l 0 hun
      have hup := inv.upd_eq l 0 hun
      have hns : ¬ l.getD 12 false = true := fun e => by have := (h.d11x0 (h.d12x11 e)); simp only [hoff] at this; cases this
      have hno : ¬ l.getD 0 false = true := fun e => by rw [hoff] at e; cases e
      have hb := below_al (Below.refl W.heap.size W) (.cells #[.int .i64 0, .int .i64 1] 3)
      have hnew := Blk.new W 3 #[.int .i64 0, .int .i64 1]
      refine wpOp_step rfl (fun K' hK => ?_)
      have HK := Lib.hid hK
      clear hK hall ho
      go_simp
      refine HK.out _ _ ⟨W.heap.size, W.heap.size + 1, lo5, hi5, lo6, hi6, lo9, hi9, lo10, hi10, _, _, _, _, _, _, _, _, _, _, _, _, rfl, by simp [hsz], ?_⟩
      rw [hup]
      exact ⟨below_tr h.fb hb, by have h2 := h.fk.below hb; have e : inv.upd (fun k => l.getD k false) 0 12 = l.getD 12 false := rfl; rw [if_neg hns] at h2; rw [e, if_neg hns]; exact h2, fun _ => ⟨h.fk.lt, Nat.le_succ _, by simp, rfl, rfl, hnew⟩, h.f1, h.f2, h.d2x1, h.f3, h.f4, h.d4x3, fun hh => ⟨(h.f5 hh).1, (h.f5 hh).2.1, Nat.le_trans (h.f5 hh).2.2.1 hb.size, ⟨((h.f5 hh).2.2.2).1, ((h.f5 hh).2.2.2).2.1, ((h.f5 hh).2.2.2).2.2.below hb⟩⟩, h.d5x2, h.d5x4, fun hh => ⟨(h.f6 hh).1, (h.f6 hh).2.1, Nat.le_trans (h.f6 hh).2.2.1 hb.size, ((h.f6 hh).2.2.2).keep hb⟩, h.d6x5, h.f7, h.f8, fun hh => ⟨(h.f9 hh).1, (h.f9 hh).2.1, Nat.le_trans (h.f9 hh).2.2.1 hb.size, ⟨((h.f9 hh).2.2.2).1, ((h.f9 hh).2.2.2).2.1, ((h.f9 hh).2.2.2).2.2.below hb⟩⟩, h.d9x7, h.d9x8, fun hh => ⟨(h.f10 hh).1, (h.f10 hh).2.1, Nat.le_trans (h.f10 hh).2.2.1 hb.size, ((h.f10 hh).2.2.2).keep hb⟩, h.d10x9, fun hh => absurd (h.d11x0 hh) hno, fun _ => rfl, h.d11x6, h.d11x10, h.d12x11, fun _ ha => .inr (h.f5 ha).2.2.1, fun _ ha => .inr (h.f6 ha).2.2.1, fun _ ha => .inr (h.f9 ha).2.2.1, fun _ ha => .inr (h.f10 ha).2.2.1, h.a5x6, h.a5x9, h.a5x10, h.a6x9, h.a6x10, h.a9x10⟩
    · obtain ⟨hun, o, ho, hall⟩ := mem_ready.1 hi
      obtain rfl : _ = o := Option.some.inj ho
      have hoff : l.getD 1 false = false := inv.off l 1 hun
      have hup := inv.upd_eq l 1 hun
      refine wpOp_step rfl (fun K' hK => ?_)
      have HK := Lib.hid hK
      clear hK hall ho
      go_simp
      refine HK.out _ _ ⟨lo0, hi0, lo5, hi5, lo6, hi6, lo9, hi9, lo10, hi10, _, _, _, _, _, _, _, _, _, _, _, _, rfl, by simp [hsz], ?_⟩
      rw [hup]
      exact ⟨h.fb, h.fk, h.f0, fun _ => rfl, h.f2, fun _ => rfl, h.f3, h.f4, h.d4x3, h.f5, h.d5x2, h.d5x4, h.f6, h.d6x5, h.f7, h.f8, h.f9, h.d9x7, h.d9x8, h.f10, h.d10x9, h.f11, h.d11x0, h.d11x6, h.d11x10, h.d12x11, h.a0x5, h.a0x6, h.a0x9, h.a0x10, h.a5x6, h.a5x9, h.a5x10, h.a6x9, h.a6x10, h.a9x10⟩
    · obtain ⟨hun, o, ho, hall⟩ := mem_ready.1 hi
      obtain rfl : _ = o := Option.some.inj ho
      have hoff : l.getD 2 false = false := inv.off l 2 hun
      have hup := inv.upd_eq l 2 hun
      have d1 : l.getD 1 false = true := hall ⟨1, .data⟩ (by simp) (by decide)
      obtain rfl := h.f1 d1
      refine wpOp_step rfl (fun K' hK => ?_)
      have HK := Lib.hid hK
      clear hK hall ho
      go_simp
      rw [if_pos (show (2 : Int) ≤ (ac : Int) from by have := A1.out; omega)]
      try go_simp
      refine HK.out _ _ ⟨lo0, hi0, lo5, hi5, lo6, hi6, lo9, hi9, lo10, hi10, _, _, _, _, _, _, _, _, _, _, _, _, rfl, by simp [hsz], ?_⟩
      rw [hup]
      exact ⟨h.fb, h.fk, h.f0, h.f1, fun _ => rfl, fun _ => d1, h.f3, h.f4, h.d4x3, h.f5, fun _ => rfl, h.d5x4, h.f6, h.d6x5, h.f7, h.f8, h.f9, h.d9x7, h.d9x8, h.f10, h.d10x9, h.f11, h.d11x0, h.d11x6, h.d11x10, h.d12x11, h.a0x5, h.a0x6, h.a0x9, h.a0x10, h.a5x6, h.a5x9, h.a5x10, h.a6x9, h.a6x10, h.a9x10⟩
    · obtain ⟨hun, o, ho, hall⟩ := mem_ready.1 hi
      obtain rfl : _ = o := Option.some.inj ho
      have hoff : l.getD 3 false = false := inv.off l 3 hun
      have hup := inv.upd_eq l 3 hun
      refine wpOp_step rfl (fun K' hK => ?_)
      have HK := Lib.hid hK
      clear hK hall ho
      go_simp
      refine HK.out _ _ ⟨lo0, hi0, lo5, hi5, lo6, hi6, lo9, hi9, lo10, hi10, _, _, _, _, _, _, _, _, _, _, _, _, rfl, by simp [hsz], ?_⟩
      rw [hup]
      exact ⟨h.fb, h.fk, h.f0, h.f1, h.f2, h.d2x1, fun _ => rfl, h.f4, fun _ => rfl, h.f5, h.d5x2, h.d5x4, h.f6, h.d6x5, h.f7, h.f8, h.f9, h.d9x7, h.d9x8, h.f10, h.d10x9, h.f11, h.d11x0, h.d11x6, h.d11x10, h.d12x11, h.a0x5, h.a0x6, h.a0x9, h.a0x10, h.a5x6, h.a5x9, h.a5x10, h.a6x9, h.a6x10, h.a9x10⟩
    · obtain ⟨hun, o, ho, hall⟩ := mem_ready.1 hi
      obtain rfl : _ = o := Option.some.inj ho
      have hoff : l.getD 4 false = false := inv.off l 4 hun
      have hup := inv.upd_eq l 4 hun
      have d3 : l.getD 3 false = true := hall ⟨3, .data⟩ (by simp) (by decide)
      obtain rfl := h.f3 d3
      refine wpOp_step rfl (fun K' hK => ?_)
      have HK := Lib.hid hK
      clear hK hall ho
      go_simp
      rw [if_neg (show ¬ ac = 2 from by have := A1.out; omega)]
      try go_simp
      refine HK.out _ _ ⟨lo0, hi0, lo5, hi5, lo6, hi6, lo9, hi9, lo10, hi10, _, _, _, _, _, _, _, _, _, _, _, _, rfl, by simp [hsz], ?_⟩
      rw [hup]
      exact ⟨h.fb, h.fk, h.f0, h.f1, h.f2, h.d2x1, h.f3, fun _ => rfl, fun _ => d3, h.f5, h.d5x2, fun _ => rfl, h.f6, h.d6x5, h.f7, h.f8, h.f9, h.d9x7, h.d9x8, h.f10, h.d10x9, h.f11, h.d11x0, h.d11x6, h.d11x10, h.d12x11, h.a0x5, h.a0x6, h.a0x9, h.a0x10, h.a5x6, h.a5x9, h.a5x10, h.a6x9, h.a6x10, h.a9x10⟩
    · obtain ⟨hun, o, ho, hall⟩ := mem_ready.1 hi
      obtain rfl : _ = o := Option.some.inj ho
      have hoff : l.getD 5 false = false := inv.off l 5 hun
      have hup := inv.upd_eq l 5 hun
      have d2 : l.getD 2 false = true := hall ⟨2, .data⟩ (by simp) (by decide)
      obtain rfl := h.f2 d2
      have d4 : l.getD 4 false = true := hall ⟨4, .data⟩ (by simp) (by decide)
      obtain rfl := h.f4 d4
      have hns : ¬ l.getD 12 false = true := fun e => by have := (h.d6x5 (h.d11x6 (h.d12x11 e))); simp only [hoff] at this; cases this
      have hno : ¬ l.getD 5 false = true := fun e => by rw [hoff] at e; cases e
      have hb := below_al (Below.refl W.heap.size W) (.cells #[.slice (some ⟨ab, ao, none⟩) 2 ac, .slice (some ⟨ab, ao + 2, none⟩) 2 (ac - 2)] 22)
      have hnew := Blk.new W 22 #[.slice (some ⟨ab, ao, none⟩) 2 ac, .slice (some ⟨ab, ao + 2, none⟩) 2 (ac - 2)]
      refine wpOp_step rfl (fun K' hK => ?_)
      have HK := Lib.hid hK
      clear hK hall ho
      go_simp
      refine HK.out _ _ ⟨lo0, hi0, W.heap.size, W.heap.size + 1, lo6, hi6, lo9, hi9, lo10, hi10, _, _, _, _, _, _, _, _, _, _, _, _, rfl, by simp [hsz], ?_⟩
      rw [hup]
      exact ⟨below_tr h.fb hb, by have h2 := h.fk.below hb; have e : inv.upd (fun k => l.getD k false) 5 12 = l.getD 12 false := rfl; rw [if_neg hns] at h2; rw [e, if_neg hns]; exact h2, fun hh => ⟨(h.f0 hh).1, (h.f0 hh).2.1, Nat.le_trans (h.f0 hh).2.2.1 hb.size, ⟨((h.f0 hh).2.2.2).1, ((h.f0 hh).2.2.2).2.1, ((h.f0 hh).2.2.2).2.2.below hb⟩⟩, h.f1, h.f2, h.d2x1, h.f3, h.f4, h.d4x3, fun _ => ⟨h.fk.lt, Nat.le_succ _, by simp, rfl, rfl, hnew⟩, fun _ => d2, fun _ => d4, fun hh => ⟨(h.f6 hh).1, (h.f6 hh).2.1, Nat.le_trans (h.f6 hh).2.2.1 hb.size, ((h.f6 hh).2.2.2).keep hb⟩, fun _ => rfl, h.f7, h.f8, fun hh => ⟨(h.f9 hh).1, (h.f9 hh).2.1, Nat.le_trans (h.f9 hh).2.2.1 hb.size, ⟨((h.f9 hh).2.2.2).1, ((h.f9 hh).2.2.2).2.1, ((h.f9 hh).2.2.2).2.2.below hb⟩⟩, h.d9x7, h.d9x8, fun hh => ⟨(h.f10 hh).1, (h.f10 hh).2.1, Nat.le_trans (h.f10 hh).2.2.1 hb.size, ((h.f10 hh).2.2.2).keep hb⟩, h.d10x9, h.f11, h.d11x0, h.d11x6, h.d11x10, h.d12x11, fun ha _ => .inl (h.f0 ha).2.2.1, h.a0x6, h.a0x9, h.a0x10, fun _ ha => .inr (h.f6 ha).2.2.1, fun _ ha => .inr (h.f9 ha).2.2.1, fun _ ha => .inr (h.f10 ha).2.2.1, h.a6x9, h.a6x10, h.a9x10⟩
    · obtain ⟨hun, o, ho, hall⟩ := mem_ready.1 hi
      obtain rfl : _ = o := Option.some.inj ho
      have hoff : l.getD 6 false = false := inv.off l 6 hun
      have hup := inv.upd_eq l 6 hun
      have d5 : l.getD 5 false = true := hall ⟨5, .data⟩ (by simp) (by decide)
      obtain ⟨_, _, _, rfl, _, hk0⟩ := h.f5 d5
      have hns : ¬ l.getD 12 false = true := fun e => by have := (h.d11x6 (h.d12x11 e)); simp only [hoff] at this; cases this
      have hno : ¬ l.getD 6 false = true := fun e => by rw [hoff] at e; cases e
      refine wpOp_step rfl (fun K' hK => ?_)
      have HK := Lib.hid hK
      clear hK hall ho
      go_simp
      (go_at_call 81; (with_reducible refine (HTA.out _ _ (st3.rows_blk2 hk0 (HA.out.below h.fb) (HB.out.below h.fb))).mono ?_); rintro e W' ⟨rv, rfl, hu, hb⟩)
      try go_simp
      refine HK.out _ _ ⟨lo0, hi0, lo5, hi5, W.heap.size, W'.heap.size, lo9, hi9, lo10, hi10, _, _, _, _, _, _, _, _, _, _, _, _, rfl, by simp [hsz], ?_⟩
      rw [hup]
      exact ⟨below_tr h.fb hb, by have h2 := h.fk.below hb; have e : inv.upd (fun k => l.getD k false) 6 12 = l.getD 12 false := rfl; rw [if_neg hns] at h2; rw [e, if_neg hns]; exact h2, fun hh => ⟨(h.f0 hh).1, (h.f0 hh).2.1, Nat.le_trans (h.f0 hh).2.2.1 hb.size, ⟨((h.f0 hh).2.2.2).1, ((h.f0 hh).2.2.2).2.1, ((h.f0 hh).2.2.2).2.2.below hb⟩⟩, h.f1, h.f2, h.d2x1, h.f3, h.f4, h.d4x3, fun hh => ⟨(h.f5 hh).1, (h.f5 hh).2.1, Nat.le_trans (h.f5 hh).2.2.1 hb.size, ⟨((h.f5 hh).2.2.2).1, ((h.f5 hh).2.2.2).2.1, ((h.f5 hh).2.2.2).2.2.below hb⟩⟩, h.d5x2, h.d5x4, fun _ => ⟨h.fk.lt, hb.size, Nat.le_refl _, hu⟩, fun _ => d5, h.f7, h.f8, fun hh => ⟨(h.f9 hh).1, (h.f9 hh).2.1, Nat.le_trans (h.f9 hh).2.2.1 hb.size, ⟨((h.f9 hh).2.2.2).1, ((h.f9 hh).2.2.2).2.1, ((h.f9 hh).2.2.2).2.2.below hb⟩⟩, h.d9x7, h.d9x8, fun hh => ⟨(h.f10 hh).1, (h.f10 hh).2.1, Nat.le_trans (h.f10 hh).2.2.1 hb.size, ((h.f10 hh).2.2.2).keep hb⟩, h.d10x9, fun hh => absurd (h.d11x6 hh) hno, h.d11x0, fun _ => rfl, h.d11x10, h.d12x11, h.a0x5, fun ha _ => .inl (h.f0 ha).2.2.1, h.a0x9, h.a0x10, fun ha _ => .inl (h.f5 ha).2.2.1, h.a5x9, h.a5x10, fun _ ha => .inr (h.f9 ha).2.2.1, fun _ ha => .inr (h.f10 ha).2.2.1, h.a9x10⟩
    · obtain ⟨hun, o, ho, hall⟩ := mem_ready.1 hi
      obtain rfl : _ = o := Option.some.inj ho
      have hoff : l.getD 7 false = false := inv.off l 7 hun
      have hup := inv.upd_eq l 7 hun
      refine wpOp_step rfl (fun K' hK => ?_)
      have HK := Lib.hid hK
      clear hK hall ho
      go_simp
      refine HK.out _ _ ⟨lo0, hi0, lo5, hi5, lo6, hi6, lo9, hi9, lo10, hi10, _, _, _, _, _, _, _, _, _, _, _, _, rfl, by simp [hsz], ?_⟩
      rw [hup]
      exact ⟨h.fb, h.fk, h.f0, h.f1, h.f2, h.d2x1, h.f3, h.f4, h.d4x3, h.f5, h.d5x2, h.d5x4, h.f6, h.d6x5, fun _ => rfl, h.f8, h.f9, fun _ => rfl, h.d9x8, h.f10, h.d10x9, h.f11, h.d11x0, h.d11x6, h.d11x10, h.d12x11, h.a0x5, h.a0x6, h.a0x9, h.a0x10, h.a5x6, h.a5x9, h.a5x10, h.a6x9, h.a6x10, h.a9x10⟩
    · obtain ⟨hun, o, ho, hall⟩ := mem_ready.1 hi
      obtain rfl : _ = o := Option.some.inj ho
      have hoff : l.getD 8 false = false := inv.off l 8 hun
      have hup := inv.upd_eq l 8 hun
      refine wpOp_step rfl (fun K' hK => ?_)
      have HK := Lib.hid hK
      clear hK hall ho
      go_simp
      refine HK.out _ _ ⟨lo0, hi0, lo5, hi5, lo6, hi6, lo9, hi9, lo10, hi10, _, _, _, _, _, _, _, _, _, _, _, _, rfl, by simp [hsz], ?_⟩
      rw [hup]
      exact ⟨h.fb, h.fk, h.f0, h.f1, h.f2, h.d2x1, h.f3, h.f4, h.d4x3, h.f5, h.d5x2, h.d5x4, h.f6, h.d6x5, h.f7, fun _ => rfl, h.f9, h.d9x7, fun _ => rfl, h.f10, h.d10x9, h.f11, h.d11x0, h.d11x6, h.d11x10, h.d12x11, h.a0x5, h.a0x6, h.a0x9, h.a0x10, h.a5x6, h.a5x9, h.a5x10, h.a6x9, h.a6x10, h.a9x10⟩
    · obtain ⟨hun, o, ho, hall⟩ := mem_ready.1 hi
      obtain rfl : _ = o := Option.some.inj ho
      have hoff : l.getD 9 false = false := inv.off l 9 hun
      have hup := inv.upd_eq l 9 hun
      have d7 : l.getD 7 false = true := hall ⟨7, .data⟩ (by simp) (by decide)
      obtain rfl := h.f7 d7
      have d8 : l.getD 8 false = true := hall ⟨8, .data⟩ (by simp) (by decide)
      obtain rfl := h.f8 d8
      have hns : ¬ l.getD 12 false = true := fun e => by have := (h.d10x9 (h.d11x10 (h.d12x11 e))); simp only [hoff] at this; cases this
      have hno : ¬ l.getD 9 false = true := fun e => by rw [hoff] at e; cases e
      have hb := below_al (Below.refl W.heap.size W) (.cells #[.slice (some ⟨sb, so, none⟩) 4 sc, .slice (some ⟨sb, so, none⟩) 4 sc] 22)
      have hnew := Blk.new W 22 #[.slice (some ⟨sb, so, none⟩) 4 sc, .slice (some ⟨sb, so, none⟩) 4 sc]
      refine wpOp_step rfl (fun K' hK => ?_)
      have HK := Lib.hid hK
      clear hK hall ho
      go_simp
      refine HK.out _ _ ⟨lo0, hi0, lo5, hi5, lo6, hi6, W.heap.size, W.heap.size + 1, lo10, hi10, _, _, _, _, _, _, _, _, _, _, _, _, rfl, by simp [hsz], ?_⟩
      rw [hup]
      exact ⟨below_tr h.fb hb, by have h2 := h.fk.below hb; have e : inv.upd (fun k => l.getD k false) 9 12 = l.getD 12 false := rfl; rw [if_neg hns] at h2; rw [e, if_neg hns]; exact h2, fun hh => ⟨(h.f0 hh).1, (h.f0 hh).2.1, Nat.le_trans (h.f0 hh).2.2.1 hb.size, ⟨((h.f0 hh).2.2.2).1, ((h.f0 hh).2.2.2).2.1, ((h.f0 hh).2.2.2).2.2.below hb⟩⟩, h.f1, h.f2, h.d2x1, h.f3, h.f4, h.d4x3, fun hh => ⟨(h.f5 hh).1, (h.f5 hh).2.1, Nat.le_trans (h.f5 hh).2.2.1 hb.size, ⟨((h.f5 hh).2.2.2).1, ((h.f5 hh).2.2.2).2.1, ((h.f5 hh).2.2.2).2.2.below hb⟩⟩, h.d5x2, h.d5x4, fun hh => ⟨(h.f6 hh).1, (h.f6 hh).2.1, Nat.le_trans (h.f6 hh).2.2.1 hb.size, ((h.f6 hh).2.2.2).keep hb⟩, h.d6x5, h.f7, h.f8, fun _ => ⟨h.fk.lt, Nat.le_succ _, by simp, rfl, rfl, hnew⟩, fun _ => d7, fun _ => d8, fun hh => ⟨(h.f10 hh).1, (h.f10 hh).2.1, Nat.le_trans (h.f10 hh).2.2.1 hb.size, ((h.f10 hh).2.2.2).keep hb⟩, fun _ => rfl, h.f11, h.d11x0, h.d11x6, h.d11x10, h.d12x11, h.a0x5, h.a0x6, fun ha _ => .inl (h.f0 ha).2.2.1, h.a0x10, h.a5x6, fun ha _ => .inl (h.f5 ha).2.2.1, h.a5x10, fun ha _ => .inl (h.f6 ha).2.2.1, h.a6x10, fun _ ha => .inr (h.f10 ha).2.2.1⟩
    · obtain ⟨hun, o, ho, hall⟩ := mem_ready.1 hi
      obtain rfl : _ = o := Option.some.inj ho
      have hoff : l.getD 10 false = false := inv.off l 10 hun
      have hup := inv.upd_eq l 10 hun
      have d9 : l.getD 9 false = true := hall ⟨9, .data⟩ (by simp) (by decide)
      obtain ⟨_, _, _, rfl, _, hk0⟩ := h.f9 d9
      have hns : ¬ l.getD 12 false = true := fun e => by have := (h.d11x10 (h.d12x11 e)); simp only [hoff] at this; cases this
      have hno : ¬ l.getD 10 false = true := fun e => by rw [hoff] at e; cases e
      refine wpOp_step rfl (fun K' hK => ?_)
      have HK := Lib.hid hK
      clear hK hall ho
      go_simp
      (go_at_call 81; (with_reducible refine (HTS.out _ _ (st3.rows_blk2 hk0 (HS.out.below h.fb) (HS.out.below h.fb))).mono ?_); rintro e W' ⟨rv, rfl, hu, hb⟩)
      try go_simp
      refine HK.out _ _ ⟨lo0, hi0, lo5, hi5, lo6, hi6, lo9, hi9, W.heap.size, W'.heap.size, _, _, _, _, _, _, _, _, _, _, _, _, rfl, by simp [hsz], ?_⟩
      rw [hup]
      exact ⟨below_tr h.fb hb, by have h2 := h.fk.below hb; have e : inv.upd (fun k => l.getD k false) 10 12 = l.getD 12 false := rfl; rw [if_neg hns] at h2; rw [e, if_neg hns]; exact h2, fun hh => ⟨(h.f0 hh).1, (h.f0 hh).2.1, Nat.le_trans (h.f0 hh).2.2.1 hb.size, ⟨((h.f0 hh).2.2.2).1, ((h.f0 hh).2.2.2).2.1, ((h.f0 hh).2.2.2).2.2.below hb⟩⟩, h.f1, h.f2, h.d2x1, h.f3, h.f4, h.d4x3, fun hh => ⟨(h.f5 hh).1, (h.f5 hh).2.1, Nat.le_trans (h.f5 hh).2.2.1 hb.size, ⟨((h.f5 hh).2.2.2).1, ((h.f5 hh).2.2.2).2.1, ((h.f5 hh).2.2.2).2.2.below hb⟩⟩, h.d5x2, h.d5x4, fun hh => ⟨(h.f6 hh).1, (h.f6 hh).2.1, Nat.le_trans (h.f6 hh).2.2.1 hb.size, ((h.f6 hh).2.2.2).keep hb⟩, h.d6x5, h.f7, h.f8, fun hh => ⟨(h.f9 hh).1, (h.f9 hh).2.1, Nat.le_trans (h.f9 hh).2.2.1 hb.size, ⟨((h.f9 hh).2.2.2).1, ((h.f9 hh).2.2.2).2.1, ((h.f9 hh).2.2.2).2.2.below hb⟩⟩, h.d9x7, h.d9x8, fun _ => ⟨h.fk.lt, hb.size, Nat.le_refl _, hu⟩, fun _ => d9, fun hh => absurd (h.d11x10 hh) hno, h.d11x0, h.d11x6, fun _ => rfl, h.d12x11, h.a0x5, h.a0x6, h.a0x9, fun ha _ => .inl (h.f0 ha).2.2.1, h.a5x6, h.a5x9, fun ha _ => .inl (h.f5 ha).2.2.1, h.a6x9, fun ha _ => .inl (h.f6 ha).2.2.1, fun ha _ => .inl (h.f9 ha).2.2.1⟩
    · obtain ⟨hun, o, ho, hall⟩ := mem_ready.1 hi
      obtain rfl : _ = o := Option.some.inj ho
      have hoff : l.getD 11 false = false := inv.off l 11 hun
      have hup := inv.upd_eq l 11 hun
      have d0 : l.getD 0 false = true := hall ⟨0, .data⟩ (by simp) (by decide)
      have d6 : l.getD 6 false = true := hall ⟨6, .data⟩ (by simp) (by decide)
      have d10 : l.getD 10 false = true := hall ⟨10, .data⟩ (by simp) (by decide)
      obtain ⟨_, _, _, rfl, _, _⟩ := h.f0 d0
      have e6 := h.f6 d6
      obtain ⟨y6a, y6n, y6c, rfl⟩ := (e6.2.2.2).rows.shape
      clear e6
      have e10 := h.f10 d10
      obtain ⟨y10a, y10n, y10c, rfl⟩ := (e10.2.2.2).rows.shape
      clear e10
      refine wpOp_step rfl (fun K' hK => ?_)
      have HK := Lib.hid hK
      clear hK hall ho
      go_simp
      refine HK.out _ _ ⟨lo0, hi0, lo5, hi5, lo6, hi6, lo9, hi9, lo10, hi10, _, _, _, _, _, _, _, _, _, _, _, _, rfl, by simp [hsz], ?_⟩
      rw [hup]
      exact ⟨h.fb, h.fk, h.f0, h.f1, h.f2, h.d2x1, h.f3, h.f4, h.d4x3, h.f5, h.d5x2, h.d5x4, h.f6, h.d6x5, h.f7, h.f8, h.f9, h.d9x7, h.d9x8, h.f10, h.d10x9, fun _ => rfl, fun _ => d0, fun _ => d6, fun _ => d10, fun _ => rfl, h.a0x5, h.a0x6, h.a0x9, h.a0x10, h.a5x6, h.a5x9, h.a5x10, h.a6x9, h.a6x10, h.a9x10⟩
    · obtain ⟨hun, o, ho, hall⟩ := mem_ready.1 hi
      obtain rfl : _ = o := Option.some.inj ho
      have hoff : l.getD 12 false = false := inv.off l 12 hun
      have hup := inv.upd_eq l 12 hun
      have d11 : l.getD 11 false = true := hall ⟨11, .data⟩ (by simp) (by decide)
      obtain rfl := h.f11 d11
      have e0 := Lib.hid (h.f0 (h.d11x0 d11))
      obtain rfl := h.f1 (h.d2x1 (h.d5x2 (h.d6x5 (h.d11x6 d11))))
      obtain rfl := h.f2 (h.d5x2 (h.d6x5 (h.d11x6 d11)))
      obtain rfl := h.f3 (h.d4x3 (h.d5x4 (h.d6x5 (h.d11x6 d11))))
      obtain rfl := h.f4 (h.d5x4 (h.d6x5 (h.d11x6 d11)))
      have e5 := Lib.hid (h.f5 (h.d6x5 (h.d11x6 d11)))
      have e6 := Lib.hid (h.f6 (h.d11x6 d11))
      obtain rfl := h.f7 (h.d9x7 (h.d10x9 (h.d11x10 d11)))
      obtain rfl := h.f8 (h.d9x8 (h.d10x9 (h.d11x10 d11)))
      have e9 := Lib.hid (h.f9 (h.d10x9 (h.d11x10 d11)))
      have e10 := Lib.hid (h.f10 (h.d11x10 d11))
      obtain ⟨_, _, _, rfl, _, _⟩ := h.f0 (h.d11x0 d11)
      obtain ⟨y6a, y6n, y6c, rfl⟩ := (e6.out.2.2.2).rows.shape
      obtain ⟨y10a, y10n, y10c, rfl⟩ := (e10.out.2.2.2).rows.shape
      have hk := h.fk
      rw [hoff] at hk
      have hk : Blk W w.heap.size 28 #[.slice none 0 0, .slice none 0 0, .slice none 0 0] := hk
      obtain ⟨c0, c1, c2, c3⟩ := scene.three_cells hk
      have rf : ∀ k, W.frozen? ⟨w.heap.size, k, none⟩ = false := fun k => Joins.unfrozen_of_block hk k
      have hw := st3.set3_wrote W w.heap.size (.slice (some ⟨lo0, 0, none⟩) 2 2) (.slice y6a y6n y6c) (.slice y10a y10n y10c)
      refine wpOp_step rfl (fun K' hK => ?_)
      have HK := Lib.hid hK
      clear hK hall ho
      go_simp
      refine HK.out _ (st3.set3 W w.heap.size (.slice (some ⟨lo0, 0, none⟩) 2 2) (.slice y6a y6n y6c) (.slice y10a y10n y10c)) ⟨lo0, hi0, lo5, hi5, lo6, hi6, lo9, hi9, lo10, hi10, _, _, _, _, _, _, _, _, _, _, _, _, rfl, by simp [hsz], ?_⟩
      rw [hup]
      exact ⟨st3.set3_below (.slice (some ⟨lo0, 0, none⟩) 2 2) (.slice y6a y6n y6c) (.slice y10a y10n y10c) (Nat.le_refl _) h.fb, st3.set3_same (.slice (some ⟨lo0, 0, none⟩) 2 2) (.slice y6a y6n y6c) (.slice y10a y10n y10c) hk, fun _ => ⟨e0.out.1, e0.out.2.1, by rw [hw.size]; exact e0.out.2.2.1, ⟨(e0.out.2.2.2).1, (e0.out.2.2.2).2.1, (e0.out.2.2.2).2.2.wrote hw (fun p hp => by have e1 : p.block = w.heap.size := hp; have := e0.out.1; omega)⟩⟩, h.f1, h.f2, h.d2x1, h.f3, h.f4, h.d4x3, fun _ => ⟨e5.out.1, e5.out.2.1, by rw [hw.size]; exact e5.out.2.2.1, ⟨(e5.out.2.2.2).1, (e5.out.2.2.2).2.1, (e5.out.2.2.2).2.2.wrote hw (fun p hp => by have e1 : p.block = w.heap.size := hp; have := e5.out.1; omega)⟩⟩, h.d5x2, h.d5x4, fun _ => ⟨e6.out.1, e6.out.2.1, by rw [hw.size]; exact e6.out.2.2.1, ((e6.out.2.2.2)).wrote hw (fun p hp => by have e1 : p.block = w.heap.size := hp; have := e6.out.1; omega)⟩, h.d6x5, h.f7, h.f8, fun _ => ⟨e9.out.1, e9.out.2.1, by rw [hw.size]; exact e9.out.2.2.1, ⟨(e9.out.2.2.2).1, (e9.out.2.2.2).2.1, (e9.out.2.2.2).2.2.wrote hw (fun p hp => by have e1 : p.block = w.heap.size := hp; have := e9.out.1; omega)⟩⟩, h.d9x7, h.d9x8, fun _ => ⟨e10.out.1, e10.out.2.1, by rw [hw.size]; exact e10.out.2.2.1, ((e10.out.2.2.2)).wrote hw (fun p hp => by have e1 : p.block = w.heap.size := hp; have := e10.out.1; omega)⟩, h.d10x9, h.f11, h.d11x0, h.d11x6, h.d11x10, fun _ => d11, h.a0x5, h.a0x6, h.a0x9, h.a0x10, h.a5x6, h.a5x9, h.a5x10, h.a6x9, h.a6x10, h.a9x10⟩
  · rintro l a' W ⟨lo0, hi0, lo5, hi5, lo6, hi6, lo9, hi9, lo10, hi10, s5, s6, s7, s8, s9, s10, s11, s12, s13, s14, s15, s16, rfl, hsz, h⟩ hr
    have hup : ∀ i, i < 13 → l.getD i false = true := inv.all_upm (by kernel_rfl) hsz hr
    obtain rfl := h.f1 (hup 1 (by omega))
    obtain rfl := h.f2 (hup 2 (by omega))
    obtain rfl := h.f3 (hup 3 (by omega))
    obtain rfl := h.f4 (hup 4 (by omega))
    obtain rfl := h.f7 (hup 7 (by omega))
    obtain rfl := h.f8 (hup 8 (by omega))
    obtain rfl := h.f11 (hup 11 (by omega))
    have hk := h.fk
    rw [if_pos (hup 12 (by omega))] at hk
    have e0 := h.f0 (hup 0 (by omega))
    have e5 := h.f5 (hup 5 (by omega))
    have e6 := h.f6 (hup 6 (by omega))
    have e9 := h.f9 (hup 9 (by omega))
    have e10 := h.f10 (hup 10 (by omega))
    have x0x5 := h.a0x5 (hup 0 (by omega)) (hup 5 (by omega))
    have x0x6 := h.a0x6 (hup 0 (by omega)) (hup 6 (by omega))
    have x0x9 := h.a0x9 (hup 0 (by omega)) (hup 9 (by omega))
    have x0x10 := h.a0x10 (hup 0 (by omega)) (hup 10 (by omega))
    have x5x6 := h.a5x6 (hup 5 (by omega)) (hup 6 (by omega))
    have x5x9 := h.a5x9 (hup 5 (by omega)) (hup 9 (by omega))
    have x5x10 := h.a5x10 (hup 5 (by omega)) (hup 10 (by omega))
    have x6x9 := h.a6x9 (hup 6 (by omega)) (hup 9 (by omega))
    have x6x10 := h.a6x10 (hup 6 (by omega)) (hup 10 (by omega))
    have x9x10 := h.a9x10 (hup 9 (by omega)) (hup 10 (by omega))
    have hfb := h.fb
    clear h hup hr hsz
    obtain ⟨z0, _, z1, rfl, z2, hI⟩ := e0
    obtain ⟨y1, y2, y3, hR⟩ := e6
    obtain ⟨u1, u2, u3, hT⟩ := e10
    obtain ⟨ra, rn, rc, rfl⟩ := hR.rows.shape
    obtain ⟨ta, tn, tc, rfl⟩ := hT.rows.shape
    obtain ⟨c0, c1, c2, c3⟩ := three_cells hk
    have HO : Hid (OR W w.heap.size W.heap.size (.slice (some ⟨lo0, 0, none⟩) 2 2) [0, 1] (.slice ra rn rc) (halves xs) (.slice ta tn tc) [ys, ys]) := Lib.hid ⟨lo0, hi0, lo6, hi6, lo10, hi10, by rw [z2]; exact st3.ints_blk (xs := [0, 1]) rfl hI (by unfold maxLen; decide), hR, hT, by omega, x0x6, x0x10, x6x10⟩
    have HF := Lib.hid hfb
    clear hR hT hI hfb
    go_wp2_with fail
    refine bodyPost_ret (v := .agg #[.slice (some ⟨lo0, 0, none⟩) 2 2, .slice ra rn rc, .slice ta tn tc]) (by simp [results, Try.results74, go_sem, c0, c1, c2]) rfl ⟨_, _, _, rfl, HO.out, HF.out⟩


end Go.Proofs.Ytneonebgneonkaa.rby
