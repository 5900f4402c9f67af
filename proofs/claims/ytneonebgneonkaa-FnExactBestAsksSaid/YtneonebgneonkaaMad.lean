/- l10Made, SumRuleBy, l10Named, NamedRule of the model. -/
import Derived.Test.YtneonebgneonkaaNam
import Derived.Test.YtneonebgneonkaaOwnz
namespace Go.Proofs.Ytneonebgneonkaa.rby
open Go.RowKit Go.Deep Go.Proofs.Ytneonebgneonkaa.base
open Go.Proofs.Ytneonebgneonkaa.ints (ret_int)
open Go.Proofs.Ytneonebgneonkaa.play (within withinB withinB_yes withinB_no)
open Go.Proofs.Ytneonebgneonkaa.scene (three_cells)
open Go.Proofs.Ytneonebgneonkaa.rule (RV OR)

/-- what holds while the operations of the region come up, in whatever order -/
structure JM (b : World) (ab ao ac sb so sc : Nat) (x0 x1 x2 x3 : Int) (ys : List Int) (L : Nat → Bool) (lo0 hi0 lo7 hi7 lo14 hi14 lo15 hi15 lo17 hi17 lo19 hi19 lo20 hi20 : Nat) (s5 s6 s7 s8 s9 s10 s11 s12 s13 s14 s15 s16 s17 s18 s19 s20 s21 s22 s23 s24 s25 s26 : Value) (W : World) : Prop where
  fb : Below b.heap.size b W
  fk : Blk W b.heap.size 28 (if L 22 = true then #[s5, s20, s25] else #[.slice none 0 0, .slice none 0 0, .slice none 0 0])
  f0 : L 0 = true → b.heap.size + 1 ≤ lo0 ∧ lo0 ≤ hi0 ∧ hi0 ≤ W.heap.size ∧ (s5 = .slice (some ⟨lo0, 0, none⟩) 2 2 ∧ hi0 = lo0 + 1 ∧ Blk W lo0 3 #[.int .i64 0, .int .i64 1])
  f1 : L 1 = true → s6 = .slice (some ⟨ab, ao, none⟩) 4 ac
  f2 : L 2 = true → s7 = .pointer (some ⟨ab, ao, none⟩)
  d2x1 : L 2 = true → L 1 = true
  f3 : L 3 = true → s8 = .int .i64 x0
  d3x2 : L 3 = true → L 2 = true
  f4 : L 4 = true → s9 = .slice (some ⟨ab, ao, none⟩) 4 ac
  f5 : L 5 = true → s10 = .pointer (some ⟨ab, ao + 1, none⟩)
  d5x4 : L 5 = true → L 4 = true
  f6 : L 6 = true → s11 = .int .i64 x1
  d6x5 : L 6 = true → L 5 = true
  f7 : L 7 = true → b.heap.size + 1 ≤ lo7 ∧ lo7 ≤ hi7 ∧ hi7 ≤ W.heap.size ∧ (s12 = .slice (some ⟨lo7, 0, none⟩) 2 2 ∧ hi7 = lo7 + 1 ∧ Blk W lo7 3 #[.int .i64 x0, .int .i64 x1])
  d7x3 : L 7 = true → L 3 = true
  d7x6 : L 7 = true → L 6 = true
  f8 : L 8 = true → s13 = .slice (some ⟨ab, ao, none⟩) 4 ac
  f9 : L 9 = true → s14 = .pointer (some ⟨ab, ao + 2, none⟩)
  d9x8 : L 9 = true → L 8 = true
  f10 : L 10 = true → s15 = .int .i64 x2
  d10x9 : L 10 = true → L 9 = true
  f11 : L 11 = true → s16 = .slice (some ⟨ab, ao, none⟩) 4 ac
  f12 : L 12 = true → s17 = .pointer (some ⟨ab, ao + 3, none⟩)
  d12x11 : L 12 = true → L 11 = true
  f13 : L 13 = true → s18 = .int .i64 x3
  d13x12 : L 13 = true → L 12 = true
  f14 : L 14 = true → b.heap.size + 1 ≤ lo14 ∧ lo14 ≤ hi14 ∧ hi14 ≤ W.heap.size ∧ (s19 = .slice (some ⟨lo14, 0, none⟩) 2 2 ∧ hi14 = lo14 + 1 ∧ Blk W lo14 3 #[.int .i64 x2, .int .i64 x3])
  d14x10 : L 14 = true → L 10 = true
  d14x13 : L 14 = true → L 13 = true
  f15 : L 15 = true → b.heap.size + 1 ≤ lo15 ∧ lo15 ≤ hi15 ∧ hi15 ≤ W.heap.size ∧ (s20 = .slice (some ⟨lo15, 0, none⟩) 2 2 ∧ hi15 = lo15 + 1 ∧ Blk W lo15 22 #[s12, s19])
  d15x7 : L 15 = true → L 7 = true
  d15x14 : L 15 = true → L 14 = true
  f16 : L 16 = true → s21 = .slice (some ⟨sb, so, none⟩) 4 sc
  f17 : L 17 = true → b.heap.size + 1 ≤ lo17 ∧ lo17 ≤ hi17 ∧ hi17 ≤ W.heap.size ∧ OwnInts W lo17 hi17 s22 ys
  d17x16 : L 17 = true → L 16 = true
  f18 : L 18 = true → s23 = .slice (some ⟨sb, so, none⟩) 4 sc
  f19 : L 19 = true → b.heap.size + 1 ≤ lo19 ∧ lo19 ≤ hi19 ∧ hi19 ≤ W.heap.size ∧ OwnInts W lo19 hi19 s24 ys
  d19x18 : L 19 = true → L 18 = true
  f20 : L 20 = true → b.heap.size + 1 ≤ lo20 ∧ lo20 ≤ hi20 ∧ hi20 ≤ W.heap.size ∧ (s25 = .slice (some ⟨lo20, 0, none⟩) 2 2 ∧ hi20 = lo20 + 1 ∧ Blk W lo20 22 #[s22, s24])
  d20x17 : L 20 = true → L 17 = true
  d20x19 : L 20 = true → L 19 = true
  f21 : L 21 = true → s26 = .agg #[s5, s20, s25]
  d21x0 : L 21 = true → L 0 = true
  d21x15 : L 21 = true → L 15 = true
  d21x20 : L 21 = true → L 20 = true
  d22x21 : L 22 = true → L 21 = true
  a0x7 : L 0 = true → L 7 = true → hi0 ≤ lo7 ∨ hi7 ≤ lo0
  a0x14 : L 0 = true → L 14 = true → hi0 ≤ lo14 ∨ hi14 ≤ lo0
  a0x15 : L 0 = true → L 15 = true → hi0 ≤ lo15 ∨ hi15 ≤ lo0
  a0x17 : L 0 = true → L 17 = true → hi0 ≤ lo17 ∨ hi17 ≤ lo0
  a0x19 : L 0 = true → L 19 = true → hi0 ≤ lo19 ∨ hi19 ≤ lo0
  a0x20 : L 0 = true → L 20 = true → hi0 ≤ lo20 ∨ hi20 ≤ lo0
  a7x14 : L 7 = true → L 14 = true → hi7 ≤ lo14 ∨ hi14 ≤ lo7
  a7x15 : L 7 = true → L 15 = true → hi7 ≤ lo15 ∨ hi15 ≤ lo7
  a7x17 : L 7 = true → L 17 = true → hi7 ≤ lo17 ∨ hi17 ≤ lo7
  a7x19 : L 7 = true → L 19 = true → hi7 ≤ lo19 ∨ hi19 ≤ lo7
  a7x20 : L 7 = true → L 20 = true → hi7 ≤ lo20 ∨ hi20 ≤ lo7
  a14x15 : L 14 = true → L 15 = true → hi14 ≤ lo15 ∨ hi15 ≤ lo14
  a14x17 : L 14 = true → L 17 = true → hi14 ≤ lo17 ∨ hi17 ≤ lo14
  a14x19 : L 14 = true → L 19 = true → hi14 ≤ lo19 ∨ hi19 ≤ lo14
  a14x20 : L 14 = true → L 20 = true → hi14 ≤ lo20 ∨ hi20 ≤ lo14
  a15x17 : L 15 = true → L 17 = true → hi15 ≤ lo17 ∨ hi17 ≤ lo15
  a15x19 : L 15 = true → L 19 = true → hi15 ≤ lo19 ∨ hi19 ≤ lo15
  a15x20 : L 15 = true → L 20 = true → hi15 ≤ lo20 ∨ hi20 ≤ lo15
  a17x19 : L 17 = true → L 19 = true → hi17 ≤ lo19 ∨ hi19 ≤ lo17
  a17x20 : L 17 = true → L 20 = true → hi17 ≤ lo20 ∨ hi20 ≤ lo17
  a19x20 : L 19 = true → L 20 = true → hi19 ≤ lo20 ∨ hi20 ≤ lo19


set_option maxRecDepth 100000 in
set_option maxHeartbeats 8000000 in
theorem l10Made (v v' : Value) (xs ys : List Int) (w : World) (h : Ints w v xs) (h' : Ints w v' ys) (hx : xs.length = 4) (hy : ys.length = 4) :
    Calls Try.prog 78 #[v, v'] w fun e w' => ∃ sv u nv, e = .returned (.agg #[sv, u, nv]) ∧ (∀ W', Wrote (fun p => p.block ≤ w.heap.size) w' W' → RV W' sv [0, 1] u (halves xs) nv [ys, ys]) ∧ Below w.heap.size w w' := by
  obtain ⟨ab, ao, ac, rfl, a1, a2, hca⟩ := cll.ints h hx (by omega)
  have HOW := Lib.hid (fun (W : World) (hb : Below w.heap.size w W) => (own.l1own_any _ ys W (h'.below hb) (by omega)).mono fun e w' ⟨r, he, ho, hb⟩ => (⟨r, he, app.ints_of_owns ho, hb⟩ : ∃ u, e = Ending.returned u ∧ OwnInts w' W.heap.size w'.heap.size u ys ∧ Below W.heap.size W w'))
  obtain ⟨sb, so, sc, rfl, _, _, _⟩ := cll.ints h' hy (by omega)
  have C0 := Lib.hid (hca 0 (by omega))
  rw [Nat.add_zero] at C0
  have C1 := Lib.hid (hca 1 (by omega))
  have C2 := Lib.hid (hca 2 (by omega))
  have C3 := Lib.hid (hca 3 (by omega))
  unfold halves
  generalize xs.getD 0 0 = x0 at *
  generalize xs.getD 1 0 = x1 at *
  generalize xs.getD 2 0 = x2 at *
  generalize xs.getD 3 0 = x3 at *
  clear h h' hca a1 a2 hx hy
  go_enter Try.func78, Try.ntmps78
  go_wp2_with fail
  refine inv.start (by kernel_rfl) (fun l a' W => ∃ (lo0 hi0 lo7 hi7 lo14 hi14 lo15 hi15 lo17 hi17 lo19 hi19 lo20 hi20 : Nat) (s5 s6 s7 s8 s9 s10 s11 s12 s13 s14 s15 s16 s17 s18 s19 s20 s21 s22 s23 s24 s25 s26 : Value), a' = { tmps := #[.slice (some ⟨ab, ao, none⟩) 4 ac, .slice (some ⟨sb, so, none⟩) 4 sc, undef, undef, .pointer (some ⟨w.heap.size, 0, none⟩), s5, s6, s7, s8, s9, s10, s11, s12, s13, s14, s15, s16, s17, s18, s19, s20, s21, s22, s23, s24, s25, s26], defers := [] } ∧ l.size = 23 ∧ JM w ab ao ac sb so sc x0 x1 x2 x3 ys (fun k => l.getD k false) lo0 hi0 lo7 hi7 lo14 hi14 lo15 hi15 lo17 hi17 lo19 hi19 lo20 hi20 s5 s6 s7 s8 s9 s10 s11 s12 s13 s14 s15 s16 s17 s18 s19 s20 s21 s22 s23 s24 s25 s26 W) ?_ ?_ ?_
  · refine ⟨0, 0, 0, 0, 0, 0, 0, 0, 0, 0, 0, 0, 0, 0, _, _, _, _, _, _, _, _, _, _, _, _, _, _, _, _, _, _, _, _, _, _, rfl, by simp, ?_⟩
    exact ⟨below_dr (below_al (Below.refl _ _) _), (Blk.new _ _ _).below (below_dr (Below.refl _ _)), fun h => by simp at h, fun h => by simp at h, fun h => by simp at h, fun h => by simp at h, fun h => by simp at h, fun h => by simp at h, fun h => by simp at h, fun h => by simp at h, fun h => by simp at h, fun h => by simp at h, fun h => by simp at h, fun h => by simp at h, fun h => by simp at h, fun h => by simp at h, fun h => by simp at h, fun h => by simp at h, fun h => by simp at h, fun h => by simp at h, fun h => by simp at h, fun h => by simp at h, fun h => by simp at h, fun h => by simp at h, fun h => by simp at h, fun h => by simp at h, fun h => by simp at h, fun h => by simp at h, fun h => by simp at h, fun h => by simp at h, fun h => by simp at h, fun h => by simp at h, fun h => by simp at h, fun h => by simp at h, fun h => by simp at h, fun h => by simp at h, fun h => by simp at h, fun h => by simp at h, fun h => by simp at h, fun h => by simp at h, fun h => by simp at h, fun h => by simp at h, fun h => by simp at h, fun h => by simp at h, fun h => by simp at h, fun h => by simp at h, fun h => by simp at h, fun h => by simp at h, fun h => by simp at h, fun h => by simp at h, fun h => by simp at h, fun h => by simp at h, fun h => by simp at h, fun h => by simp at h, fun h => by simp at h, fun h => by simp at h, fun h => by simp at h, fun h => by simp at h, fun h => by simp at h, fun h => by simp at h, fun h => by simp at h, fun h => by simp at h, fun h => by simp at h, fun h => by simp at h, fun h => by simp at h, fun h => by simp at h, fun h => by simp at h⟩
  · rintro l a' W i ⟨lo0, hi0, lo7, hi7, lo14, hi14, lo15, hi15, lo17, hi17, lo19, hi19, lo20, hi20, s5, s6, s7, s8, s9, s10, s11, s12, s13, s14, s15, s16, s17, s18, s19, s20, s21, s22, s23, s24, s25, s26, rfl, hsz, h⟩ hi
    have hlt : i < 23 := (inv.ready_lt hi).1
    obtain rfl | rfl | rfl | rfl | rfl | rfl | rfl | rfl | rfl | rfl | rfl | rfl | rfl | rfl | rfl | rfl | rfl | rfl | rfl | rfl | rfl | rfl | rfl : i = 0 ∨ i = 1 ∨ i = 2 ∨ i = 3 ∨ i = 4 ∨ i = 5 ∨ i = 6 ∨ i = 7 ∨ i = 8 ∨ i = 9 ∨ i = 10 ∨ i = 11 ∨ i = 12 ∨ i = 13 ∨ i = 14 ∨ i = 15 ∨ i = 16 ∨ i = 17 ∨ i = 18 ∨ i = 19 ∨ i = 20 ∨ i = 21 ∨ i = 22 := by omega
    · obtain ⟨hun, o, ho, hall⟩ := mem_ready.1 hi
      obtain rfl : _ = o := Option.some.inj ho
      have hoff : l.getD 0 false = false := inv.off l 0 hun
      have hup := inv.upd_eq l 0 hun
      have hns : ¬ l.getD 22 false = true := fun e => by have := (h.d21x0 (h.d22x21 e)); simp only [hoff] at this; cases this
      have hno : ¬ l.getD 0 false = true := fun e => by rw [hoff] at e; cases e
      have hb := below_al (Below.refl W.heap.size W) (.cells #[.int .i64 0, .int .i64 1] 3)
      have hnew := Blk.new W 3 #[.int .i64 0, .int .i64 1]
      refine wpOp_step rfl (fun K' hK => ?_)
      have HK := Lib.hid hK
      clear hK hall ho
      go_simp
      refine HK.out _ _ ⟨W.heap.size, W.heap.size + 1, lo7, hi7, lo14, hi14, lo15, hi15, lo17, hi17, lo19, hi19, lo20, hi20, _, _, _, _, _, _, _, _, _, _, _, _, _, _, _, _, _, _, _, _, _, _, rfl, by simp [hsz], ?_⟩
      rw [hup]
      exact ⟨below_tr h.fb hb, by have h2 := h.fk.below hb; have e : inv.upd (fun k => l.getD k false) 0 22 = l.getD 22 false := rfl; rw [if_neg hns] at h2; rw [e, if_neg hns]; exact h2, fun _ => ⟨h.fk.lt, Nat.le_succ _, by simp, rfl, rfl, hnew⟩, h.f1, h.f2, h.d2x1, h.f3, h.d3x2, h.f4, h.f5, h.d5x4, h.f6, h.d6x5, fun hh => ⟨(h.f7 hh).1, (h.f7 hh).2.1, Nat.le_trans (h.f7 hh).2.2.1 hb.size, ⟨((h.f7 hh).2.2.2).1, ((h.f7 hh).2.2.2).2.1, ((h.f7 hh).2.2.2).2.2.below hb⟩⟩, h.d7x3, h.d7x6, h.f8, h.f9, h.d9x8, h.f10, h.d10x9, h.f11, h.f12, h.d12x11, h.f13, h.d13x12, fun hh => ⟨(h.f14 hh).1, (h.f14 hh).2.1, Nat.le_trans (h.f14 hh).2.2.1 hb.size, ⟨((h.f14 hh).2.2.2).1, ((h.f14 hh).2.2.2).2.1, ((h.f14 hh).2.2.2).2.2.below hb⟩⟩, h.d14x10, h.d14x13, fun hh => ⟨(h.f15 hh).1, (h.f15 hh).2.1, Nat.le_trans (h.f15 hh).2.2.1 hb.size, ⟨((h.f15 hh).2.2.2).1, ((h.f15 hh).2.2.2).2.1, ((h.f15 hh).2.2.2).2.2.below hb⟩⟩, h.d15x7, h.d15x14, h.f16, fun hh => ⟨(h.f17 hh).1, (h.f17 hh).2.1, Nat.le_trans (h.f17 hh).2.2.1 hb.size, ((h.f17 hh).2.2.2).keep hb⟩, h.d17x16, h.f18, fun hh => ⟨(h.f19 hh).1, (h.f19 hh).2.1, Nat.le_trans (h.f19 hh).2.2.1 hb.size, ((h.f19 hh).2.2.2).keep hb⟩, h.d19x18, fun hh => ⟨(h.f20 hh).1, (h.f20 hh).2.1, Nat.le_trans (h.f20 hh).2.2.1 hb.size, ⟨((h.f20 hh).2.2.2).1, ((h.f20 hh).2.2.2).2.1, ((h.f20 hh).2.2.2).2.2.below hb⟩⟩, h.d20x17, h.d20x19, fun hh => absurd (h.d21x0 hh) hno, fun _ => rfl, h.d21x15, h.d21x20, h.d22x21, fun _ ha => .inr (h.f7 ha).2.2.1, fun _ ha => .inr (h.f14 ha).2.2.1, fun _ ha => .inr (h.f15 ha).2.2.1, fun _ ha => .inr (h.f17 ha).2.2.1, fun _ ha => .inr (h.f19 ha).2.2.1, fun _ ha => .inr (h.f20 ha).2.2.1, h.a7x14, h.a7x15, h.a7x17, h.a7x19, h.a7x20, h.a14x15, h.a14x17, h.a14x19, h.a14x20, h.a15x17, h.a15x19, h.a15x20, h.a17x19, h.a17x20, h.a19x20⟩
    · obtain ⟨hun, o, ho, hall⟩ := mem_ready.1 hi
      obtain rfl : _ = o := Option.some.inj ho
      have hoff : l.getD 1 false = false := inv.off l 1 hun
      have hup := inv.upd_eq l 1 hun
      refine wpOp_step rfl (fun K' hK => ?_)
      have HK := Lib.hid hK
      clear hK hall ho
      go_simp
      refine HK.out _ _ ⟨lo0, hi0, lo7, hi7, lo14, hi14, lo15, hi15, lo17, hi17, lo19, hi19, lo20, hi20, _, _, _, _, _, _, _, _, _, _, _, _, _, _, _, _, _, _, _, _, _, _, rfl, by simp [hsz], ?_⟩
      rw [hup]
      exact ⟨h.fb, h.fk, h.f0, fun _ => rfl, h.f2, fun _ => rfl, h.f3, h.d3x2, h.f4, h.f5, h.d5x4, h.f6, h.d6x5, h.f7, h.d7x3, h.d7x6, h.f8, h.f9, h.d9x8, h.f10, h.d10x9, h.f11, h.f12, h.d12x11, h.f13, h.d13x12, h.f14, h.d14x10, h.d14x13, h.f15, h.d15x7, h.d15x14, h.f16, h.f17, h.d17x16, h.f18, h.f19, h.d19x18, h.f20, h.d20x17, h.d20x19, h.f21, h.d21x0, h.d21x15, h.d21x20, h.d22x21, h.a0x7, h.a0x14, h.a0x15, h.a0x17, h.a0x19, h.a0x20, h.a7x14, h.a7x15, h.a7x17, h.a7x19, h.a7x20, h.a14x15, h.a14x17, h.a14x19, h.a14x20, h.a15x17, h.a15x19, h.a15x20, h.a17x19, h.a17x20, h.a19x20⟩
    · obtain ⟨hun, o, ho, hall⟩ := mem_ready.1 hi
      obtain rfl : _ = o := Option.some.inj ho
      have hoff : l.getD 2 false = false := inv.off l 2 hun
      have hup := inv.upd_eq l 2 hun
      have d1 : l.getD 1 false = true := hall ⟨1, .data⟩ (by simp) (by decide)
      obtain rfl := h.f1 d1
      refine wpOp_step rfl (fun K' hK => ?_)
      have HK := Lib.hid hK
      clear hK hall ho
      go_simp
      refine HK.out _ _ ⟨lo0, hi0, lo7, hi7, lo14, hi14, lo15, hi15, lo17, hi17, lo19, hi19, lo20, hi20, _, _, _, _, _, _, _, _, _, _, _, _, _, _, _, _, _, _, _, _, _, _, rfl, by simp [hsz], ?_⟩
      rw [hup]
      exact ⟨h.fb, h.fk, h.f0, h.f1, fun _ => rfl, fun _ => d1, h.f3, fun _ => rfl, h.f4, h.f5, h.d5x4, h.f6, h.d6x5, h.f7, h.d7x3, h.d7x6, h.f8, h.f9, h.d9x8, h.f10, h.d10x9, h.f11, h.f12, h.d12x11, h.f13, h.d13x12, h.f14, h.d14x10, h.d14x13, h.f15, h.d15x7, h.d15x14, h.f16, h.f17, h.d17x16, h.f18, h.f19, h.d19x18, h.f20, h.d20x17, h.d20x19, h.f21, h.d21x0, h.d21x15, h.d21x20, h.d22x21, h.a0x7, h.a0x14, h.a0x15, h.a0x17, h.a0x19, h.a0x20, h.a7x14, h.a7x15, h.a7x17, h.a7x19, h.a7x20, h.a14x15, h.a14x17, h.a14x19, h.a14x20, h.a15x17, h.a15x19, h.a15x20, h.a17x19, h.a17x20, h.a19x20⟩
    · obtain ⟨hun, o, ho, hall⟩ := mem_ready.1 hi
      obtain rfl : _ = o := Option.some.inj ho
      have hoff : l.getD 3 false = false := inv.off l 3 hun
      have hup := inv.upd_eq l 3 hun
      have d2 : l.getD 2 false = true := hall ⟨2, .data⟩ (by simp) (by decide)
      obtain rfl := h.f2 d2
      have g := below_cell h.fb _ _ C0.out
      refine wpOp_step rfl (fun K' hK => ?_)
      have HK := Lib.hid hK
      clear hK hall ho
      go_simp
      refine HK.out _ _ ⟨lo0, hi0, lo7, hi7, lo14, hi14, lo15, hi15, lo17, hi17, lo19, hi19, lo20, hi20, _, _, _, _, _, _, _, _, _, _, _, _, _, _, _, _, _, _, _, _, _, _, rfl, by simp [hsz], ?_⟩
      rw [hup]
      exact ⟨h.fb, h.fk, h.f0, h.f1, h.f2, h.d2x1, fun _ => rfl, fun _ => d2, h.f4, h.f5, h.d5x4, h.f6, h.d6x5, h.f7, fun _ => rfl, h.d7x6, h.f8, h.f9, h.d9x8, h.f10, h.d10x9, h.f11, h.f12, h.d12x11, h.f13, h.d13x12, h.f14, h.d14x10, h.d14x13, h.f15, h.d15x7, h.d15x14, h.f16, h.f17, h.d17x16, h.f18, h.f19, h.d19x18, h.f20, h.d20x17, h.d20x19, h.f21, h.d21x0, h.d21x15, h.d21x20, h.d22x21, h.a0x7, h.a0x14, h.a0x15, h.a0x17, h.a0x19, h.a0x20, h.a7x14, h.a7x15, h.a7x17, h.a7x19, h.a7x20, h.a14x15, h.a14x17, h.a14x19, h.a14x20, h.a15x17, h.a15x19, h.a15x20, h.a17x19, h.a17x20, h.a19x20⟩
    · obtain ⟨hun, o, ho, hall⟩ := mem_ready.1 hi
      obtain rfl : _ = o := Option.some.inj ho
      have hoff : l.getD 4 false = false := inv.off l 4 hun
      have hup := inv.upd_eq l 4 hun
      refine wpOp_step rfl (fun K' hK => ?_)
      have HK := Lib.hid hK
      clear hK hall ho
      go_simp
      refine HK.out _ _ ⟨lo0, hi0, lo7, hi7, lo14, hi14, lo15, hi15, lo17, hi17, lo19, hi19, lo20, hi20, _, _, _, _, _, _, _, _, _, _, _, _, _, _, _, _, _, _, _, _, _, _, rfl, by simp [hsz], ?_⟩
      rw [hup]
      exact ⟨h.fb, h.fk, h.f0, h.f1, h.f2, h.d2x1, h.f3, h.d3x2, fun _ => rfl, h.f5, fun _ => rfl, h.f6, h.d6x5, h.f7, h.d7x3, h.d7x6, h.f8, h.f9, h.d9x8, h.f10, h.d10x9, h.f11, h.f12, h.d12x11, h.f13, h.d13x12, h.f14, h.d14x10, h.d14x13, h.f15, h.d15x7, h.d15x14, h.f16, h.f17, h.d17x16, h.f18, h.f19, h.d19x18, h.f20, h.d20x17, h.d20x19, h.f21, h.d21x0, h.d21x15, h.d21x20, h.d22x21, h.a0x7, h.a0x14, h.a0x15, h.a0x17, h.a0x19, h.a0x20, h.a7x14, h.a7x15, h.a7x17, h.a7x19, h.a7x20, h.a14x15, h.a14x17, h.a14x19, h.a14x20, h.a15x17, h.a15x19, h.a15x20, h.a17x19, h.a17x20, h.a19x20⟩
    · obtain ⟨hun, o, ho, hall⟩ := mem_ready.1 hi
      obtain rfl : _ = o := Option.some.inj ho
      have hoff : l.getD 5 false = false := inv.off l 5 hun
      have hup := inv.upd_eq l 5 hun
      have d4 : l.getD 4 false = true := hall ⟨4, .data⟩ (by simp) (by decide)
      obtain rfl := h.f4 d4
      refine wpOp_step rfl (fun K' hK => ?_)
      have HK := Lib.hid hK
      clear hK hall ho
      go_simp
      refine HK.out _ _ ⟨lo0, hi0, lo7, hi7, lo14, hi14, lo15, hi15, lo17, hi17, lo19, hi19, lo20, hi20, _, _, _, _, _, _, _, _, _, _, _, _, _, _, _, _, _, _, _, _, _, _, rfl, by simp [hsz], ?_⟩
      rw [hup]
      exact ⟨h.fb, h.fk, h.f0, h.f1, h.f2, h.d2x1, h.f3, h.d3x2, h.f4, fun _ => rfl, fun _ => d4, h.f6, fun _ => rfl, h.f7, h.d7x3, h.d7x6, h.f8, h.f9, h.d9x8, h.f10, h.d10x9, h.f11, h.f12, h.d12x11, h.f13, h.d13x12, h.f14, h.d14x10, h.d14x13, h.f15, h.d15x7, h.d15x14, h.f16, h.f17, h.d17x16, h.f18, h.f19, h.d19x18, h.f20, h.d20x17, h.d20x19, h.f21, h.d21x0, h.d21x15, h.d21x20, h.d22x21, h.a0x7, h.a0x14, h.a0x15, h.a0x17, h.a0x19, h.a0x20, h.a7x14, h.a7x15, h.a7x17, h.a7x19, h.a7x20, h.a14x15, h.a14x17, h.a14x19, h.a14x20, h.a15x17, h.a15x19, h.a15x20, h.a17x19, h.a17x20, h.a19x20⟩
    · obtain ⟨hun, o, ho, hall⟩ := mem_ready.1 hi
      obtain rfl : _ = o := Option.some.inj ho
      have hoff : l.getD 6 false = false := inv.off l 6 hun
      have hup := inv.upd_eq l 6 hun
      have d5 : l.getD 5 false = true := hall ⟨5, .data⟩ (by simp) (by decide)
      obtain rfl := h.f5 d5
      have g := below_cell h.fb _ _ C1.out
      refine wpOp_step rfl (fun K' hK => ?_)
      have HK := Lib.hid hK
      clear hK hall ho
      go_simp
      refine HK.out _ _ ⟨lo0, hi0, lo7, hi7, lo14, hi14, lo15, hi15, lo17, hi17, lo19, hi19, lo20, hi20, _, _, _, _, _, _, _, _, _, _, _, _, _, _, _, _, _, _, _, _, _, _, rfl, by simp [hsz], ?_⟩
      rw [hup]
      exact ⟨h.fb, h.fk, h.f0, h.f1, h.f2, h.d2x1, h.f3, h.d3x2, h.f4, h.f5, h.d5x4, fun _ => rfl, fun _ => d5, h.f7, h.d7x3, fun _ => rfl, h.f8, h.f9, h.d9x8, h.f10, h.d10x9, h.f11, h.f12, h.d12x11, h.f13, h.d13x12, h.f14, h.d14x10, h.d14x13, h.f15, h.d15x7, h.d15x14, h.f16, h.f17, h.d17x16, h.f18, h.f19, h.d19x18, h.f20, h.d20x17, h.d20x19, h.f21, h.d21x0, h.d21x15, h.d21x20, h.d22x21, h.a0x7, h.a0x14, h.a0x15, h.a0x17, h.a0x19, h.a0x20, h.a7x14, h.a7x15, h.a7x17, h.a7x19, h.a7x20, h.a14x15, h.a14x17, h.a14x19, h.a14x20, h.a15x17, h.a15x19, h.a15x20, h.a17x19, h.a17x20, h.a19x20⟩
    · obtain ⟨hun, o, ho, hall⟩ := mem_ready.1 hi
      obtain rfl : _ = o := Option.some.inj ho
      have hoff : l.getD 7 false = false := inv.off l 7 hun
      have hup := inv.upd_eq l 7 hun
      have d3 : l.getD 3 false = true := hall ⟨3, .data⟩ (by simp) (by decide)
      obtain rfl := h.f3 d3
      have d6 : l.getD 6 false = true := hall ⟨6, .data⟩ (by simp) (by decide)
      obtain rfl := h.f6 d6
      have hns : ¬ l.getD 22 false = true := fun e => by have := (h.d15x7 (h.d21x15 (h.d22x21 e))); simp only [hoff] at this; cases this
      have hno : ¬ l.getD 7 false = true := fun e => by rw [hoff] at e; cases e
      have hb := below_al (Below.refl W.heap.size W) (.cells #[.int .i64 x0, .int .i64 x1] 3)
      have hnew := Blk.new W 3 #[.int .i64 x0, .int .i64 x1]
      refine wpOp_step rfl (fun K' hK => ?_)
      have HK := Lib.hid hK
      clear hK hall ho
      go_simp
      refine HK.out _ _ ⟨lo0, hi0, W.heap.size, W.heap.size + 1, lo14, hi14, lo15, hi15, lo17, hi17, lo19, hi19, lo20, hi20, _, _, _, _, _, _, _, _, _, _, _, _, _, _, _, _, _, _, _, _, _, _, rfl, by simp [hsz], ?_⟩
      rw [hup]
      exact ⟨below_tr h.fb hb, by have h2 := h.fk.below hb; have e : inv.upd (fun k => l.getD k false) 7 22 = l.getD 22 false := rfl; rw [if_neg hns] at h2; rw [e, if_neg hns]; exact h2, fun hh => ⟨(h.f0 hh).1, (h.f0 hh).2.1, Nat.le_trans (h.f0 hh).2.2.1 hb.size, ⟨((h.f0 hh).2.2.2).1, ((h.f0 hh).2.2.2).2.1, ((h.f0 hh).2.2.2).2.2.below hb⟩⟩, h.f1, h.f2, h.d2x1, h.f3, h.d3x2, h.f4, h.f5, h.d5x4, h.f6, h.d6x5, fun _ => ⟨h.fk.lt, Nat.le_succ _, by simp, rfl, rfl, hnew⟩, fun _ => d3, fun _ => d6, h.f8, h.f9, h.d9x8, h.f10, h.d10x9, h.f11, h.f12, h.d12x11, h.f13, h.d13x12, fun hh => ⟨(h.f14 hh).1, (h.f14 hh).2.1, Nat.le_trans (h.f14 hh).2.2.1 hb.size, ⟨((h.f14 hh).2.2.2).1, ((h.f14 hh).2.2.2).2.1, ((h.f14 hh).2.2.2).2.2.below hb⟩⟩, h.d14x10, h.d14x13, fun hh => absurd (h.d15x7 hh) hno, fun _ => rfl, h.d15x14, h.f16, fun hh => ⟨(h.f17 hh).1, (h.f17 hh).2.1, Nat.le_trans (h.f17 hh).2.2.1 hb.size, ((h.f17 hh).2.2.2).keep hb⟩, h.d17x16, h.f18, fun hh => ⟨(h.f19 hh).1, (h.f19 hh).2.1, Nat.le_trans (h.f19 hh).2.2.1 hb.size, ((h.f19 hh).2.2.2).keep hb⟩, h.d19x18, fun hh => ⟨(h.f20 hh).1, (h.f20 hh).2.1, Nat.le_trans (h.f20 hh).2.2.1 hb.size, ⟨((h.f20 hh).2.2.2).1, ((h.f20 hh).2.2.2).2.1, ((h.f20 hh).2.2.2).2.2.below hb⟩⟩, h.d20x17, h.d20x19, h.f21, h.d21x0, h.d21x15, h.d21x20, h.d22x21, fun ha _ => .inl (h.f0 ha).2.2.1, h.a0x14, h.a0x15, h.a0x17, h.a0x19, h.a0x20, fun _ ha => .inr (h.f14 ha).2.2.1, fun _ ha => .inr (h.f15 ha).2.2.1, fun _ ha => .inr (h.f17 ha).2.2.1, fun _ ha => .inr (h.f19 ha).2.2.1, fun _ ha => .inr (h.f20 ha).2.2.1, h.a14x15, h.a14x17, h.a14x19, h.a14x20, h.a15x17, h.a15x19, h.a15x20, h.a17x19, h.a17x20, h.a19x20⟩
    · obtain ⟨hun, o, ho, hall⟩ := mem_ready.1 hi
      obtain rfl : _ = o := Option.some.inj ho
      have hoff : l.getD 8 false = false := inv.off l 8 hun
      have hup := inv.upd_eq l 8 hun
      refine wpOp_step rfl (fun K' hK => ?_)
      have HK := Lib.hid hK
      clear hK hall ho
      go_simp
      refine HK.out _ _ ⟨lo0, hi0, lo7, hi7, lo14, hi14, lo15, hi15, lo17, hi17, lo19, hi19, lo20, hi20, _, _, _, _, _, _, _, _, _, _, _, _, _, _, _, _, _, _, _, _, _, _, rfl, by simp [hsz], ?_⟩
      rw [hup]
      exact ⟨h.fb, h.fk, h.f0, h.f1, h.f2, h.d2x1, h.f3, h.d3x2, h.f4, h.f5, h.d5x4, h.f6, h.d6x5, h.f7, h.d7x3, h.d7x6, fun _ => rfl, h.f9, fun _ => rfl, h.f10, h.d10x9, h.f11, h.f12, h.d12x11, h.f13, h.d13x12, h.f14, h.d14x10, h.d14x13, h.f15, h.d15x7, h.d15x14, h.f16, h.f17, h.d17x16, h.f18, h.f19, h.d19x18, h.f20, h.d20x17, h.d20x19, h.f21, h.d21x0, h.d21x15, h.d21x20, h.d22x21, h.a0x7, h.a0x14, h.a0x15, h.a0x17, h.a0x19, h.a0x20, h.a7x14, h.a7x15, h.a7x17, h.a7x19, h.a7x20, h.a14x15, h.a14x17, h.a14x19, h.a14x20, h.a15x17, h.a15x19, h.a15x20, h.a17x19, h.a17x20, h.a19x20⟩
    · obtain ⟨hun, o, ho, hall⟩ := mem_ready.1 hi
      obtain rfl : _ = o := Option.some.inj ho
      have hoff : l.getD 9 false = false := inv.off l 9 hun
      have hup := inv.upd_eq l 9 hun
      have d8 : l.getD 8 false = true := hall ⟨8, .data⟩ (by simp) (by decide)
      obtain rfl := h.f8 d8
      refine wpOp_step rfl (fun K' hK => ?_)
      have HK := Lib.hid hK
      clear hK hall ho
      go_simp
      refine HK.out _ _ ⟨lo0, hi0, lo7, hi7, lo14, hi14, lo15, hi15, lo17, hi17, lo19, hi19, lo20, hi20, _, _, _, _, _, _, _, _, _, _, _, _, _, _, _, _, _, _, _, _, _, _, rfl, by simp [hsz], ?_⟩
      rw [hup]
      exact ⟨h.fb, h.fk, h.f0, h.f1, h.f2, h.d2x1, h.f3, h.d3x2, h.f4, h.f5, h.d5x4, h.f6, h.d6x5, h.f7, h.d7x3, h.d7x6, h.f8, fun _ => rfl, fun _ => d8, h.f10, fun _ => rfl, h.f11, h.f12, h.d12x11, h.f13, h.d13x12, h.f14, h.d14x10, h.d14x13, h.f15, h.d15x7, h.d15x14, h.f16, h.f17, h.d17x16, h.f18, h.f19, h.d19x18, h.f20, h.d20x17, h.d20x19, h.f21, h.d21x0, h.d21x15, h.d21x20, h.d22x21, h.a0x7, h.a0x14, h.a0x15, h.a0x17, h.a0x19, h.a0x20, h.a7x14, h.a7x15, h.a7x17, h.a7x19, h.a7x20, h.a14x15, h.a14x17, h.a14x19, h.a14x20, h.a15x17, h.a15x19, h.a15x20, h.a17x19, h.a17x20, h.a19x20⟩
    · obtain ⟨hun, o, ho, hall⟩ := mem_ready.1 hi
      obtain rfl : _ = o := Option.some.inj ho
      have hoff : l.getD 10 false = false := inv.off l 10 hun
      have hup := inv.upd_eq l 10 hun
      have d9 : l.getD 9 false = true := hall ⟨9, .data⟩ (by simp) (by decide)
      obtain rfl := h.f9 d9
      have g := below_cell h.fb _ _ C2.out
      refine wpOp_step rfl (fun K' hK => ?_)
      have HK := Lib.hid hK
      clear hK hall ho
      go_simp
      refine HK.out _ _ ⟨lo0, hi0, lo7, hi7, lo14, hi14, lo15, hi15, lo17, hi17, lo19, hi19, lo20, hi20, _, _, _, _, _, _, _, _, _, _, _, _, _, _, _, _, _, _, _, _, _, _, rfl, by simp [hsz], ?_⟩
      rw [hup]
      exact ⟨h.fb, h.fk, h.f0, h.f1, h.f2, h.d2x1, h.f3, h.d3x2, h.f4, h.f5, h.d5x4, h.f6, h.d6x5, h.f7, h.d7x3, h.d7x6, h.f8, h.f9, h.d9x8, fun _ => rfl, fun _ => d9, h.f11, h.f12, h.d12x11, h.f13, h.d13x12, h.f14, fun _ => rfl, h.d14x13, h.f15, h.d15x7, h.d15x14, h.f16, h.f17, h.d17x16, h.f18, h.f19, h.d19x18, h.f20, h.d20x17, h.d20x19, h.f21, h.d21x0, h.d21x15, h.d21x20, h.d22x21, h.a0x7, h.a0x14, h.a0x15, h.a0x17, h.a0x19, h.a0x20, h.a7x14, h.a7x15, h.a7x17, h.a7x19, h.a7x20, h.a14x15, h.a14x17, h.a14x19, h.a14x20, h.a15x17, h.a15x19, h.a15x20, h.a17x19, h.a17x20, h.a19x20⟩
    · obtain ⟨hun, o, ho, hall⟩ := mem_ready.1 hi
      obtain rfl : _ = o := Option.some.inj ho
      have hoff : l.getD 11 false = false := inv.off l 11 hun
      have hup := inv.upd_eq l 11 hun
      refine wpOp_step rfl (fun K' hK => ?_)
      have HK := Lib.hid hK
      clear hK hall ho
      go_simp
      refine HK.out _ _ ⟨lo0, hi0, lo7, hi7, lo14, hi14, lo15, hi15, lo17, hi17, lo19, hi19, lo20, hi20, _, _, _, _, _, _, _, _, _, _, _, _, _, _, _, _, _, _, _, _, _, _, rfl, by simp [hsz], ?_⟩
      rw [hup]
      exact ⟨h.fb, h.fk, h.f0, h.f1, h.f2, h.d2x1, h.f3, h.d3x2, h.f4, h.f5, h.d5x4, h.f6, h.d6x5, h.f7, h.d7x3, h.d7x6, h.f8, h.f9, h.d9x8, h.f10, h.d10x9, fun _ => rfl, h.f12, fun _ => rfl, h.f13, h.d13x12, h.f14, h.d14x10, h.d14x13, h.f15, h.d15x7, h.d15x14, h.f16, h.f17, h.d17x16, h.f18, h.f19, h.d19x18, h.f20, h.d20x17, h.d20x19, h.f21, h.d21x0, h.d21x15, h.d21x20, h.d22x21, h.a0x7, h.a0x14, h.a0x15, h.a0x17, h.a0x19, h.a0x20, h.a7x14, h.a7x15, h.a7x17, h.a7x19, h.a7x20, h.a14x15, h.a14x17, h.a14x19, h.a14x20, h.a15x17, h.a15x19, h.a15x20, h.a17x19, h.a17x20, h.a19x20⟩
    · obtain ⟨hun, o, ho, hall⟩ := mem_ready.1 hi
      obtain rfl : _ = o := Option.some.inj ho
      have hoff : l.getD 12 false = false := inv.off l 12 hun
      have hup := inv.upd_eq l 12 hun
      have d11 : l.getD 11 false = true := hall ⟨11, .data⟩ (by simp) (by decide)
      obtain rfl := h.f11 d11
      refine wpOp_step rfl (fun K' hK => ?_)
      have HK := Lib.hid hK
      clear hK hall ho
      go_simp
      refine HK.out _ _ ⟨lo0, hi0, lo7, hi7, lo14, hi14, lo15, hi15, lo17, hi17, lo19, hi19, lo20, hi20, _, _, _, _, _, _, _, _, _, _, _, _, _, _, _, _, _, _, _, _, _, _, rfl, by simp [hsz], ?_⟩
      rw [hup]
      exact ⟨h.fb, h.fk, h.f0, h.f1, h.f2, h.d2x1, h.f3, h.d3x2, h.f4, h.f5, h.d5x4, h.f6, h.d6x5, h.f7, h.d7x3, h.d7x6, h.f8, h.f9, h.d9x8, h.f10, h.d10x9, h.f11, fun _ => rfl, fun _ => d11, h.f13, fun _ => rfl, h.f14, h.d14x10, h.d14x13, h.f15, h.d15x7, h.d15x14, h.f16, h.f17, h.d17x16, h.f18, h.f19, h.d19x18, h.f20, h.d20x17, h.d20x19, h.f21, h.d21x0, h.d21x15, h.d21x20, h.d22x21, h.a0x7, h.a0x14, h.a0x15, h.a0x17, h.a0x19, h.a0x20, h.a7x14, h.a7x15, h.a7x17, h.a7x19, h.a7x20, h.a14x15, h.a14x17, h.a14x19, h.a14x20, h.a15x17, h.a15x19, h.a15x20, h.a17x19, h.a17x20, h.a19x20⟩
    · obtain ⟨hun, o, ho, hall⟩ := mem_ready.1 hi
      obtain rfl : _ = o := Option.some.inj ho
      have hoff : l.getD 13 false = false := inv.off l 13 hun
      have hup := inv.upd_eq l 13 hun
      have d12 : l.getD 12 false = true := hall ⟨12, .data⟩ (by simp) (by decide)
      obtain rfl := h.f12 d12
      have g := below_cell h.fb _ _ C3.out
      refine wpOp_step rfl (fun K' hK => ?_)
      have HK := Lib.hid hK
      clear hK hall ho
      go_simp
      refine HK.out _ _ ⟨lo0, hi0, lo7, hi7, lo14, hi14, lo15, hi15, lo17, hi17, lo19, hi19, lo20, hi20, _, _, _, _, _, _, _, _, _, _, _, _, _, _, _, _, _, _, _, _, _, _, rfl, by simp [hsz], ?_⟩
      rw [hup]
      exact ⟨h.fb, h.fk, h.f0, h.f1, h.f2, h.d2x1, h.f3, h.d3x2, h.f4, h.f5, h.d5x4, h.f6, h.d6x5, h.f7, h.d7x3, h.d7x6, h.f8, h.f9, h.d9x8, h.f10, h.d10x9, h.f11, h.f12, h.d12x11, fun _ => rfl, fun _ => d12, h.f14, h.d14x10, fun _ => rfl, h.f15, h.d15x7, h.d15x14, h.f16, h.f17, h.d17x16, h.f18, h.f19, h.d19x18, h.f20, h.d20x17, h.d20x19, h.f21, h.d21x0, h.d21x15, h.d21x20, h.d22x21, h.a0x7, h.a0x14, h.a0x15, h.a0x17, h.a0x19, h.a0x20, h.a7x14, h.a7x15, h.a7x17, h.a7x19, h.a7x20, h.a14x15, h.a14x17, h.a14x19, h.a14x20, h.a15x17, h.a15x19, h.a15x20, h.a17x19, h.a17x20, h.a19x20⟩
    · obtain ⟨hun, o, ho, hall⟩ := mem_ready.1 hi
      obtain rfl : _ = o := Option.some.inj ho
      have hoff : l.getD 14 false = false := inv.off l 14 hun
      have hup := inv.upd_eq l 14 hun
      have d10 : l.getD 10 false = true := hall ⟨10, .data⟩ (by simp) (by decide)
      obtain rfl := h.f10 d10
      have d13 : l.getD 13 false = true := hall ⟨13, .data⟩ (by simp) (by decide)
      obtain rfl := h.f13 d13
      have hns : ¬ l.getD 22 false = true := fun e => by have := (h.d15x14 (h.d21x15 (h.d22x21 e))); simp only [hoff] at this; cases this
      have hno : ¬ l.getD 14 false = true := fun e => by rw [hoff] at e; cases e
      have hb := below_al (Below.refl W.heap.size W) (.cells #[.int .i64 x2, .int .i64 x3] 3)
      have hnew := Blk.new W 3 #[.int .i64 x2, .int .i64 x3]
      refine wpOp_step rfl (fun K' hK => ?_)
      have HK := Lib.hid hK
      clear hK hall ho
      go_simp
      refine HK.out _ _ ⟨lo0, hi0, lo7, hi7, W.heap.size, W.heap.size + 1, lo15, hi15, lo17, hi17, lo19, hi19, lo20, hi20, _, _, _, _, _, _, _, _, _, _, _, _, _, _, _, _, _, _, _, _, _, _, rfl, by simp [hsz], ?_⟩
      rw [hup]
      exact ⟨below_tr h.fb hb, by have h2 := h.fk.below hb; have e : inv.upd (fun k => l.getD k false) 14 22 = l.getD 22 false := rfl; rw [if_neg hns] at h2; rw [e, if_neg hns]; exact h2, fun hh => ⟨(h.f0 hh).1, (h.f0 hh).2.1, Nat.le_trans (h.f0 hh).2.2.1 hb.size, ⟨((h.f0 hh).2.2.2).1, ((h.f0 hh).2.2.2).2.1, ((h.f0 hh).2.2.2).2.2.below hb⟩⟩, h.f1, h.f2, h.d2x1, h.f3, h.d3x2, h.f4, h.f5, h.d5x4, h.f6, h.d6x5, fun hh => ⟨(h.f7 hh).1, (h.f7 hh).2.1, Nat.le_trans (h.f7 hh).2.2.1 hb.size, ⟨((h.f7 hh).2.2.2).1, ((h.f7 hh).2.2.2).2.1, ((h.f7 hh).2.2.2).2.2.below hb⟩⟩, h.d7x3, h.d7x6, h.f8, h.f9, h.d9x8, h.f10, h.d10x9, h.f11, h.f12, h.d12x11, h.f13, h.d13x12, fun _ => ⟨h.fk.lt, Nat.le_succ _, by simp, rfl, rfl, hnew⟩, fun _ => d10, fun _ => d13, fun hh => absurd (h.d15x14 hh) hno, h.d15x7, fun _ => rfl, h.f16, fun hh => ⟨(h.f17 hh).1, (h.f17 hh).2.1, Nat.le_trans (h.f17 hh).2.2.1 hb.size, ((h.f17 hh).2.2.2).keep hb⟩, h.d17x16, h.f18, fun hh => ⟨(h.f19 hh).1, (h.f19 hh).2.1, Nat.le_trans (h.f19 hh).2.2.1 hb.size, ((h.f19 hh).2.2.2).keep hb⟩, h.d19x18, fun hh => ⟨(h.f20 hh).1, (h.f20 hh).2.1, Nat.le_trans (h.f20 hh).2.2.1 hb.size, ⟨((h.f20 hh).2.2.2).1, ((h.f20 hh).2.2.2).2.1, ((h.f20 hh).2.2.2).2.2.below hb⟩⟩, h.d20x17, h.d20x19, h.f21, h.d21x0, h.d21x15, h.d21x20, h.d22x21, h.a0x7, fun ha _ => .inl (h.f0 ha).2.2.1, h.a0x15, h.a0x17, h.a0x19, h.a0x20, fun ha _ => .inl (h.f7 ha).2.2.1, h.a7x15, h.a7x17, h.a7x19, h.a7x20, fun _ ha => .inr (h.f15 ha).2.2.1, fun _ ha => .inr (h.f17 ha).2.2.1, fun _ ha => .inr (h.f19 ha).2.2.1, fun _ ha => .inr (h.f20 ha).2.2.1, h.a15x17, h.a15x19, h.a15x20, h.a17x19, h.a17x20, h.a19x20⟩
    · obtain ⟨hun, o, ho, hall⟩ := mem_ready.1 hi
      obtain rfl : _ = o := Option.some.inj ho
      have hoff : l.getD 15 false = false := inv.off l 15 hun
      have hup := inv.upd_eq l 15 hun
      have d7 : l.getD 7 false = true := hall ⟨7, .data⟩ (by simp) (by decide)
      have d14 : l.getD 14 false = true := hall ⟨14, .data⟩ (by simp) (by decide)
      have hns : ¬ l.getD 22 false = true := fun e => by have := (h.d21x15 (h.d22x21 e)); simp only [hoff] at this; cases this
      have hno : ¬ l.getD 15 false = true := fun e => by rw [hoff] at e; cases e
      obtain ⟨_, _, _, rfl, _⟩ := h.f7 d7
      obtain ⟨_, _, _, rfl, _⟩ := h.f14 d14
      have hb := below_al (Below.refl W.heap.size W) (.cells #[.slice (some ⟨lo7, 0, none⟩) 2 2, .slice (some ⟨lo14, 0, none⟩) 2 2] 22)
      have hnew := Blk.new W 22 #[.slice (some ⟨lo7, 0, none⟩) 2 2, .slice (some ⟨lo14, 0, none⟩) 2 2]
      refine wpOp_step rfl (fun K' hK => ?_)
      have HK := Lib.hid hK
      clear hK hall ho
      go_simp
      refine HK.out _ _ ⟨lo0, hi0, lo7, hi7, lo14, hi14, W.heap.size, W.heap.size + 1, lo17, hi17, lo19, hi19, lo20, hi20, _, _, _, _, _, _, _, _, _, _, _, _, _, _, _, _, _, _, _, _, _, _, rfl, by simp [hsz], ?_⟩
      rw [hup]
      exact ⟨below_tr h.fb hb, by have h2 := h.fk.below hb; have e : inv.upd (fun k => l.getD k false) 15 22 = l.getD 22 false := rfl; rw [if_neg hns] at h2; rw [e, if_neg hns]; exact h2, fun hh => ⟨(h.f0 hh).1, (h.f0 hh).2.1, Nat.le_trans (h.f0 hh).2.2.1 hb.size, ⟨((h.f0 hh).2.2.2).1, ((h.f0 hh).2.2.2).2.1, ((h.f0 hh).2.2.2).2.2.below hb⟩⟩, h.f1, h.f2, h.d2x1, h.f3, h.d3x2, h.f4, h.f5, h.d5x4, h.f6, h.d6x5, fun hh => ⟨(h.f7 hh).1, (h.f7 hh).2.1, Nat.le_trans (h.f7 hh).2.2.1 hb.size, ⟨((h.f7 hh).2.2.2).1, ((h.f7 hh).2.2.2).2.1, ((h.f7 hh).2.2.2).2.2.below hb⟩⟩, h.d7x3, h.d7x6, h.f8, h.f9, h.d9x8, h.f10, h.d10x9, h.f11, h.f12, h.d12x11, h.f13, h.d13x12, fun hh => ⟨(h.f14 hh).1, (h.f14 hh).2.1, Nat.le_trans (h.f14 hh).2.2.1 hb.size, ⟨((h.f14 hh).2.2.2).1, ((h.f14 hh).2.2.2).2.1, ((h.f14 hh).2.2.2).2.2.below hb⟩⟩, h.d14x10, h.d14x13, fun _ => ⟨h.fk.lt, Nat.le_succ _, by simp, rfl, rfl, hnew⟩, fun _ => d7, fun _ => d14, h.f16, fun hh => ⟨(h.f17 hh).1, (h.f17 hh).2.1, Nat.le_trans (h.f17 hh).2.2.1 hb.size, ((h.f17 hh).2.2.2).keep hb⟩, h.d17x16, h.f18, fun hh => ⟨(h.f19 hh).1, (h.f19 hh).2.1, Nat.le_trans (h.f19 hh).2.2.1 hb.size, ((h.f19 hh).2.2.2).keep hb⟩, h.d19x18, fun hh => ⟨(h.f20 hh).1, (h.f20 hh).2.1, Nat.le_trans (h.f20 hh).2.2.1 hb.size, ⟨((h.f20 hh).2.2.2).1, ((h.f20 hh).2.2.2).2.1, ((h.f20 hh).2.2.2).2.2.below hb⟩⟩, h.d20x17, h.d20x19, fun hh => absurd (h.d21x15 hh) hno, h.d21x0, fun _ => rfl, h.d21x20, h.d22x21, h.a0x7, h.a0x14, fun ha _ => .inl (h.f0 ha).2.2.1, h.a0x17, h.a0x19, h.a0x20, h.a7x14, fun ha _ => .inl (h.f7 ha).2.2.1, h.a7x17, h.a7x19, h.a7x20, fun ha _ => .inl (h.f14 ha).2.2.1, h.a14x17, h.a14x19, h.a14x20, fun _ ha => .inr (h.f17 ha).2.2.1, fun _ ha => .inr (h.f19 ha).2.2.1, fun _ ha => .inr (h.f20 ha).2.2.1, h.a17x19, h.a17x20, h.a19x20⟩
    · obtain ⟨hun, o, ho, hall⟩ := mem_ready.1 hi
      obtain rfl : _ = o := Option.some.inj ho
      have hoff : l.getD 16 false = false := inv.off l 16 hun
      have hup := inv.upd_eq l 16 hun
      refine wpOp_step rfl (fun K' hK => ?_)
      have HK := Lib.hid hK
      clear hK hall ho
      go_simp
      refine HK.out _ _ ⟨lo0, hi0, lo7, hi7, lo14, hi14, lo15, hi15, lo17, hi17, lo19, hi19, lo20, hi20, _, _, _, _, _, _, _, _, _, _, _, _, _, _, _, _, _, _, _, _, _, _, rfl, by simp [hsz], ?_⟩
      rw [hup]
      exact ⟨h.fb, h.fk, h.f0, h.f1, h.f2, h.d2x1, h.f3, h.d3x2, h.f4, h.f5, h.d5x4, h.f6, h.d6x5, h.f7, h.d7x3, h.d7x6, h.f8, h.f9, h.d9x8, h.f10, h.d10x9, h.f11, h.f12, h.d12x11, h.f13, h.d13x12, h.f14, h.d14x10, h.d14x13, h.f15, h.d15x7, h.d15x14, fun _ => rfl, h.f17, fun _ => rfl, h.f18, h.f19, h.d19x18, h.f20, h.d20x17, h.d20x19, h.f21, h.d21x0, h.d21x15, h.d21x20, h.d22x21, h.a0x7, h.a0x14, h.a0x15, h.a0x17, h.a0x19, h.a0x20, h.a7x14, h.a7x15, h.a7x17, h.a7x19, h.a7x20, h.a14x15, h.a14x17, h.a14x19, h.a14x20, h.a15x17, h.a15x19, h.a15x20, h.a17x19, h.a17x20, h.a19x20⟩
    · obtain ⟨hun, o, ho, hall⟩ := mem_ready.1 hi
      obtain rfl : _ = o := Option.some.inj ho
      have hoff : l.getD 17 false = false := inv.off l 17 hun
      have hup := inv.upd_eq l 17 hun
      have d16 : l.getD 16 false = true := hall ⟨16, .data⟩ (by simp) (by decide)
      obtain rfl := h.f16 d16
      have hns : ¬ l.getD 22 false = true := fun e => by have := (h.d20x17 (h.d21x20 (h.d22x21 e))); simp only [hoff] at this; cases this
      have hno : ¬ l.getD 17 false = true := fun e => by rw [hoff] at e; cases e
      refine wpOp_step rfl (fun K' hK => ?_)
      have HK := Lib.hid hK
      clear hK hall ho
      go_simp
      (go_at_call 79; (with_reducible refine (HOW.out _ h.fb).mono ?_); rintro e W' ⟨rv, rfl, hu, hb⟩)
      try go_simp
      refine HK.out _ _ ⟨lo0, hi0, lo7, hi7, lo14, hi14, lo15, hi15, W.heap.size, W'.heap.size, lo19, hi19, lo20, hi20, _, _, _, _, _, _, _, _, _, _, _, _, _, _, _, _, _, _, _, _, _, _, rfl, by simp [hsz], ?_⟩
      rw [hup]
      exact ⟨below_tr h.fb hb, by have h2 := h.fk.below hb; have e : inv.upd (fun k => l.getD k false) 17 22 = l.getD 22 false := rfl; rw [if_neg hns] at h2; rw [e, if_neg hns]; exact h2, fun hh => ⟨(h.f0 hh).1, (h.f0 hh).2.1, Nat.le_trans (h.f0 hh).2.2.1 hb.size, ⟨((h.f0 hh).2.2.2).1, ((h.f0 hh).2.2.2).2.1, ((h.f0 hh).2.2.2).2.2.below hb⟩⟩, h.f1, h.f2, h.d2x1, h.f3, h.d3x2, h.f4, h.f5, h.d5x4, h.f6, h.d6x5, fun hh => ⟨(h.f7 hh).1, (h.f7 hh).2.1, Nat.le_trans (h.f7 hh).2.2.1 hb.size, ⟨((h.f7 hh).2.2.2).1, ((h.f7 hh).2.2.2).2.1, ((h.f7 hh).2.2.2).2.2.below hb⟩⟩, h.d7x3, h.d7x6, h.f8, h.f9, h.d9x8, h.f10, h.d10x9, h.f11, h.f12, h.d12x11, h.f13, h.d13x12, fun hh => ⟨(h.f14 hh).1, (h.f14 hh).2.1, Nat.le_trans (h.f14 hh).2.2.1 hb.size, ⟨((h.f14 hh).2.2.2).1, ((h.f14 hh).2.2.2).2.1, ((h.f14 hh).2.2.2).2.2.below hb⟩⟩, h.d14x10, h.d14x13, fun hh => ⟨(h.f15 hh).1, (h.f15 hh).2.1, Nat.le_trans (h.f15 hh).2.2.1 hb.size, ⟨((h.f15 hh).2.2.2).1, ((h.f15 hh).2.2.2).2.1, ((h.f15 hh).2.2.2).2.2.below hb⟩⟩, h.d15x7, h.d15x14, h.f16, fun _ => ⟨h.fk.lt, hb.size, Nat.le_refl _, hu⟩, fun _ => d16, h.f18, fun hh => ⟨(h.f19 hh).1, (h.f19 hh).2.1, Nat.le_trans (h.f19 hh).2.2.1 hb.size, ((h.f19 hh).2.2.2).keep hb⟩, h.d19x18, fun hh => absurd (h.d20x17 hh) hno, fun _ => rfl, h.d20x19, h.f21, h.d21x0, h.d21x15, h.d21x20, h.d22x21, h.a0x7, h.a0x14, h.a0x15, fun ha _ => .inl (h.f0 ha).2.2.1, h.a0x19, h.a0x20, h.a7x14, h.a7x15, fun ha _ => .inl (h.f7 ha).2.2.1, h.a7x19, h.a7x20, h.a14x15, fun ha _ => .inl (h.f14 ha).2.2.1, h.a14x19, h.a14x20, fun ha _ => .inl (h.f15 ha).2.2.1, h.a15x19, h.a15x20, fun _ ha => .inr (h.f19 ha).2.2.1, fun _ ha => .inr (h.f20 ha).2.2.1, h.a19x20⟩
    · obtain ⟨hun, o, ho, hall⟩ := mem_ready.1 hi
      obtain rfl : _ = o := Option.some.inj ho
      have hoff : l.getD 18 false = false := inv.off l 18 hun
      have hup := inv.upd_eq l 18 hun
      refine wpOp_step rfl (fun K' hK => ?_)
      have HK := Lib.hid hK
      clear hK hall ho
      go_simp
      refine HK.out _ _ ⟨lo0, hi0, lo7, hi7, lo14, hi14, lo15, hi15, lo17, hi17, lo19, hi19, lo20, hi20, _, _, _, _, _, _, _, _, _, _, _, _, _, _, _, _, _, _, _, _, _, _, rfl, by simp [hsz], ?_⟩
      rw [hup]
      exact ⟨h.fb, h.fk, h.f0, h.f1, h.f2, h.d2x1, h.f3, h.d3x2, h.f4, h.f5, h.d5x4, h.f6, h.d6x5, h.f7, h.d7x3, h.d7x6, h.f8, h.f9, h.d9x8, h.f10, h.d10x9, h.f11, h.f12, h.d12x11, h.f13, h.d13x12, h.f14, h.d14x10, h.d14x13, h.f15, h.d15x7, h.d15x14, h.f16, h.f17, h.d17x16, fun _ => rfl, h.f19, fun _ => rfl, h.f20, h.d20x17, h.d20x19, h.f21, h.d21x0, h.d21x15, h.d21x20, h.d22x21, h.a0x7, h.a0x14, h.a0x15, h.a0x17, h.a0x19, h.a0x20, h.a7x14, h.a7x15, h.a7x17, h.a7x19, h.a7x20, h.a14x15, h.a14x17, h.a14x19, h.a14x20, h.a15x17, h.a15x19, h.a15x20, h.a17x19, h.a17x20, h.a19x20⟩
    · obtain ⟨hun, o, ho, hall⟩ := mem_ready.1 hi
      obtain rfl : _ = o := Option.some.inj ho
      have hoff : l.getD 19 false = false := inv.off l 19 hun
      have hup := inv.upd_eq l 19 hun
      have d18 : l.getD 18 false = true := hall ⟨18, .data⟩ (by simp) (by decide)
      obtain rfl := h.f18 d18
      have hns : ¬ l.getD 22 false = true := fun e => by have := (h.d20x19 (h.d21x20 (h.d22x21 e))); simp only [hoff] at this; cases this
      have hno : ¬ l.getD 19 false = true := fun e => by rw [hoff] at e; cases e
      refine wpOp_step rfl (fun K' hK => ?_)
      have HK := Lib.hid hK
      clear hK hall ho
      go_simp
      (go_at_call 79; (with_reducible refine (HOW.out _ h.fb).mono ?_); rintro e W' ⟨rv, rfl, hu, hb⟩)
      try go_simp
      refine HK.out _ _ ⟨lo0, hi0, lo7, hi7, lo14, hi14, lo15, hi15, lo17, hi17, W.heap.size, W'.heap.size, lo20, hi20, _, _, _, _, _, _, _, _, _, _, _, _, _, _, _, _, _, _, _, _, _, _, rfl, by simp [hsz], ?_⟩
      rw [hup]
      exact ⟨below_tr h.fb hb, by have h2 := h.fk.below hb; have e : inv.upd (fun k => l.getD k false) 19 22 = l.getD 22 false := rfl; rw [if_neg hns] at h2; rw [e, if_neg hns]; exact h2, fun hh => ⟨(h.f0 hh).1, (h.f0 hh).2.1, Nat.le_trans (h.f0 hh).2.2.1 hb.size, ⟨((h.f0 hh).2.2.2).1, ((h.f0 hh).2.2.2).2.1, ((h.f0 hh).2.2.2).2.2.below hb⟩⟩, h.f1, h.f2, h.d2x1, h.f3, h.d3x2, h.f4, h.f5, h.d5x4, h.f6, h.d6x5, fun hh => ⟨(h.f7 hh).1, (h.f7 hh).2.1, Nat.le_trans (h.f7 hh).2.2.1 hb.size, ⟨((h.f7 hh).2.2.2).1, ((h.f7 hh).2.2.2).2.1, ((h.f7 hh).2.2.2).2.2.below hb⟩⟩, h.d7x3, h.d7x6, h.f8, h.f9, h.d9x8, h.f10, h.d10x9, h.f11, h.f12, h.d12x11, h.f13, h.d13x12, fun hh => ⟨(h.f14 hh).1, (h.f14 hh).2.1, Nat.le_trans (h.f14 hh).2.2.1 hb.size, ⟨((h.f14 hh).2.2.2).1, ((h.f14 hh).2.2.2).2.1, ((h.f14 hh).2.2.2).2.2.below hb⟩⟩, h.d14x10, h.d14x13, fun hh => ⟨(h.f15 hh).1, (h.f15 hh).2.1, Nat.le_trans (h.f15 hh).2.2.1 hb.size, ⟨((h.f15 hh).2.2.2).1, ((h.f15 hh).2.2.2).2.1, ((h.f15 hh).2.2.2).2.2.below hb⟩⟩, h.d15x7, h.d15x14, h.f16, fun hh => ⟨(h.f17 hh).1, (h.f17 hh).2.1, Nat.le_trans (h.f17 hh).2.2.1 hb.size, ((h.f17 hh).2.2.2).keep hb⟩, h.d17x16, h.f18, fun _ => ⟨h.fk.lt, hb.size, Nat.le_refl _, hu⟩, fun _ => d18, fun hh => absurd (h.d20x19 hh) hno, h.d20x17, fun _ => rfl, h.f21, h.d21x0, h.d21x15, h.d21x20, h.d22x21, h.a0x7, h.a0x14, h.a0x15, h.a0x17, fun ha _ => .inl (h.f0 ha).2.2.1, h.a0x20, h.a7x14, h.a7x15, h.a7x17, fun ha _ => .inl (h.f7 ha).2.2.1, h.a7x20, h.a14x15, h.a14x17, fun ha _ => .inl (h.f14 ha).2.2.1, h.a14x20, h.a15x17, fun ha _ => .inl (h.f15 ha).2.2.1, h.a15x20, fun ha _ => .inl (h.f17 ha).2.2.1, h.a17x20, fun _ ha => .inr (h.f20 ha).2.2.1⟩
    · obtain ⟨hun, o, ho, hall⟩ := mem_ready.1 hi
      obtain rfl : _ = o := Option.some.inj ho
      have hoff : l.getD 20 false = false := inv.off l 20 hun
      have hup := inv.upd_eq l 20 hun
      have d17 : l.getD 17 false = true := hall ⟨17, .data⟩ (by simp) (by decide)
      have d19 : l.getD 19 false = true := hall ⟨19, .data⟩ (by simp) (by decide)
      have hns : ¬ l.getD 22 false = true := fun e => by have := (h.d21x20 (h.d22x21 e)); simp only [hoff] at this; cases this
      have hno : ¬ l.getD 20 false = true := fun e => by rw [hoff] at e; cases e
      have e17 := h.f17 d17
      obtain ⟨y17a, y17n, y17c, rfl⟩ := (e17.2.2.2).ints.shape
      have e19 := h.f19 d19
      obtain ⟨y19a, y19n, y19c, rfl⟩ := (e19.2.2.2).ints.shape
      have hb := below_al (Below.refl W.heap.size W) (.cells #[.slice y17a y17n y17c, .slice y19a y19n y19c] 22)
      have hnew := Blk.new W 22 #[.slice y17a y17n y17c, .slice y19a y19n y19c]
      refine wpOp_step rfl (fun K' hK => ?_)
      have HK := Lib.hid hK
      clear hK hall ho
      go_simp
      refine HK.out _ _ ⟨lo0, hi0, lo7, hi7, lo14, hi14, lo15, hi15, lo17, hi17, lo19, hi19, W.heap.size, W.heap.size + 1, _, _, _, _, _, _, _, _, _, _, _, _, _, _, _, _, _, _, _, _, _, _, rfl, by simp [hsz], ?_⟩
      rw [hup]
      exact ⟨below_tr h.fb hb, by have h2 := h.fk.below hb; have e : inv.upd (fun k => l.getD k false) 20 22 = l.getD 22 false := rfl; rw [if_neg hns] at h2; rw [e, if_neg hns]; exact h2, fun hh => ⟨(h.f0 hh).1, (h.f0 hh).2.1, Nat.le_trans (h.f0 hh).2.2.1 hb.size, ⟨((h.f0 hh).2.2.2).1, ((h.f0 hh).2.2.2).2.1, ((h.f0 hh).2.2.2).2.2.below hb⟩⟩, h.f1, h.f2, h.d2x1, h.f3, h.d3x2, h.f4, h.f5, h.d5x4, h.f6, h.d6x5, fun hh => ⟨(h.f7 hh).1, (h.f7 hh).2.1, Nat.le_trans (h.f7 hh).2.2.1 hb.size, ⟨((h.f7 hh).2.2.2).1, ((h.f7 hh).2.2.2).2.1, ((h.f7 hh).2.2.2).2.2.below hb⟩⟩, h.d7x3, h.d7x6, h.f8, h.f9, h.d9x8, h.f10, h.d10x9, h.f11, h.f12, h.d12x11, h.f13, h.d13x12, fun hh => ⟨(h.f14 hh).1, (h.f14 hh).2.1, Nat.le_trans (h.f14 hh).2.2.1 hb.size, ⟨((h.f14 hh).2.2.2).1, ((h.f14 hh).2.2.2).2.1, ((h.f14 hh).2.2.2).2.2.below hb⟩⟩, h.d14x10, h.d14x13, fun hh => ⟨(h.f15 hh).1, (h.f15 hh).2.1, Nat.le_trans (h.f15 hh).2.2.1 hb.size, ⟨((h.f15 hh).2.2.2).1, ((h.f15 hh).2.2.2).2.1, ((h.f15 hh).2.2.2).2.2.below hb⟩⟩, h.d15x7, h.d15x14, h.f16, fun hh => ⟨(h.f17 hh).1, (h.f17 hh).2.1, Nat.le_trans (h.f17 hh).2.2.1 hb.size, ((h.f17 hh).2.2.2).keep hb⟩, h.d17x16, h.f18, fun hh => ⟨(h.f19 hh).1, (h.f19 hh).2.1, Nat.le_trans (h.f19 hh).2.2.1 hb.size, ((h.f19 hh).2.2.2).keep hb⟩, h.d19x18, fun _ => ⟨h.fk.lt, Nat.le_succ _, by simp, rfl, rfl, hnew⟩, fun _ => d17, fun _ => d19, fun hh => absurd (h.d21x20 hh) hno, h.d21x0, h.d21x15, fun _ => rfl, h.d22x21, h.a0x7, h.a0x14, h.a0x15, h.a0x17, h.a0x19, fun ha _ => .inl (h.f0 ha).2.2.1, h.a7x14, h.a7x15, h.a7x17, h.a7x19, fun ha _ => .inl (h.f7 ha).2.2.1, h.a14x15, h.a14x17, h.a14x19, fun ha _ => .inl (h.f14 ha).2.2.1, h.a15x17, h.a15x19, fun ha _ => .inl (h.f15 ha).2.2.1, h.a17x19, fun ha _ => .inl (h.f17 ha).2.2.1, fun ha _ => .inl (h.f19 ha).2.2.1⟩
    · obtain ⟨hun, o, ho, hall⟩ := mem_ready.1 hi
      obtain rfl : _ = o := Option.some.inj ho
      have hoff : l.getD 21 false = false := inv.off l 21 hun
      have hup := inv.upd_eq l 21 hun
      have d0 : l.getD 0 false = true := hall ⟨0, .data⟩ (by simp) (by decide)
      have d15 : l.getD 15 false = true := hall ⟨15, .data⟩ (by simp) (by decide)
      have d20 : l.getD 20 false = true := hall ⟨20, .data⟩ (by simp) (by decide)
      obtain ⟨_, _, _, rfl, _, _⟩ := h.f0 d0
      obtain ⟨_, _, _, rfl, _, _⟩ := h.f15 d15
      obtain ⟨_, _, _, rfl, _, _⟩ := h.f20 d20
      refine wpOp_step rfl (fun K' hK => ?_)
      have HK := Lib.hid hK
      clear hK hall ho
      go_simp
      refine HK.out _ _ ⟨lo0, hi0, lo7, hi7, lo14, hi14, lo15, hi15, lo17, hi17, lo19, hi19, lo20, hi20, _, _, _, _, _, _, _, _, _, _, _, _, _, _, _, _, _, _, _, _, _, _, rfl, by simp [hsz], ?_⟩
      rw [hup]
      exact ⟨h.fb, h.fk, h.f0, h.f1, h.f2, h.d2x1, h.f3, h.d3x2, h.f4, h.f5, h.d5x4, h.f6, h.d6x5, h.f7, h.d7x3, h.d7x6, h.f8, h.f9, h.d9x8, h.f10, h.d10x9, h.f11, h.f12, h.d12x11, h.f13, h.d13x12, h.f14, h.d14x10, h.d14x13, h.f15, h.d15x7, h.d15x14, h.f16, h.f17, h.d17x16, h.f18, h.f19, h.d19x18, h.f20, h.d20x17, h.d20x19, fun _ => rfl, fun _ => d0, fun _ => d15, fun _ => d20, fun _ => rfl, h.a0x7, h.a0x14, h.a0x15, h.a0x17, h.a0x19, h.a0x20, h.a7x14, h.a7x15, h.a7x17, h.a7x19, h.a7x20, h.a14x15, h.a14x17, h.a14x19, h.a14x20, h.a15x17, h.a15x19, h.a15x20, h.a17x19, h.a17x20, h.a19x20⟩
    · obtain ⟨hun, o, ho, hall⟩ := mem_ready.1 hi
      obtain rfl : _ = o := Option.some.inj ho
      have hoff : l.getD 22 false = false := inv.off l 22 hun
      have hup := inv.upd_eq l 22 hun
      have d21 : l.getD 21 false = true := hall ⟨21, .data⟩ (by simp) (by decide)
      obtain rfl := h.f21 d21
      have e0 := Lib.hid (h.f0 (h.d21x0 d21))
      obtain rfl := h.f1 (h.d2x1 (h.d3x2 (h.d7x3 (h.d15x7 (h.d21x15 d21)))))
      obtain rfl := h.f2 (h.d3x2 (h.d7x3 (h.d15x7 (h.d21x15 d21))))
      obtain rfl := h.f3 (h.d7x3 (h.d15x7 (h.d21x15 d21)))
      obtain rfl := h.f4 (h.d5x4 (h.d6x5 (h.d7x6 (h.d15x7 (h.d21x15 d21)))))
      obtain rfl := h.f5 (h.d6x5 (h.d7x6 (h.d15x7 (h.d21x15 d21))))
      obtain rfl := h.f6 (h.d7x6 (h.d15x7 (h.d21x15 d21)))
      have e7 := Lib.hid (h.f7 (h.d15x7 (h.d21x15 d21)))
      obtain rfl := h.f8 (h.d9x8 (h.d10x9 (h.d14x10 (h.d15x14 (h.d21x15 d21)))))
      obtain rfl := h.f9 (h.d10x9 (h.d14x10 (h.d15x14 (h.d21x15 d21))))
      obtain rfl := h.f10 (h.d14x10 (h.d15x14 (h.d21x15 d21)))
      obtain rfl := h.f11 (h.d12x11 (h.d13x12 (h.d14x13 (h.d15x14 (h.d21x15 d21)))))
      obtain rfl := h.f12 (h.d13x12 (h.d14x13 (h.d15x14 (h.d21x15 d21))))
      obtain rfl := h.f13 (h.d14x13 (h.d15x14 (h.d21x15 d21)))
      have e14 := Lib.hid (h.f14 (h.d15x14 (h.d21x15 d21)))
      have e15 := Lib.hid (h.f15 (h.d21x15 d21))
      obtain rfl := h.f16 (h.d17x16 (h.d20x17 (h.d21x20 d21)))
      have e17 := Lib.hid (h.f17 (h.d20x17 (h.d21x20 d21)))
      obtain rfl := h.f18 (h.d19x18 (h.d20x19 (h.d21x20 d21)))
      have e19 := Lib.hid (h.f19 (h.d20x19 (h.d21x20 d21)))
      have e20 := Lib.hid (h.f20 (h.d21x20 d21))
      obtain ⟨_, _, _, rfl, _, _⟩ := h.f0 (h.d21x0 d21)
      obtain ⟨_, _, _, rfl, _, _⟩ := h.f15 (h.d21x15 d21)
      obtain ⟨_, _, _, rfl, _, _⟩ := h.f20 (h.d21x20 d21)
      have hk := h.fk
      rw [hoff] at hk
      have hk : Blk W w.heap.size 28 #[.slice none 0 0, .slice none 0 0, .slice none 0 0] := hk
      obtain ⟨c0, c1, c2, c3⟩ := scene.three_cells hk
      have rf : ∀ k, W.frozen? ⟨w.heap.size, k, none⟩ = false := fun k => Joins.unfrozen_of_block hk k
      have hw := st3.set3_wrote W w.heap.size (.slice (some ⟨lo0, 0, none⟩) 2 2) (.slice (some ⟨lo15, 0, none⟩) 2 2) (.slice (some ⟨lo20, 0, none⟩) 2 2)
      refine wpOp_step rfl (fun K' hK => ?_)
      have HK := Lib.hid hK
      clear hK hall ho
      go_simp
      refine HK.out _ (st3.set3 W w.heap.size (.slice (some ⟨lo0, 0, none⟩) 2 2) (.slice (some ⟨lo15, 0, none⟩) 2 2) (.slice (some ⟨lo20, 0, none⟩) 2 2)) ⟨lo0, hi0, lo7, hi7, lo14, hi14, lo15, hi15, lo17, hi17, lo19, hi19, lo20, hi20, _, _, _, _, _, _, _, _, _, _, _, _, _, _, _, _, _, _, _, _, _, _, rfl, by simp [hsz], ?_⟩
      rw [hup]
      exact ⟨st3.set3_below (.slice (some ⟨lo0, 0, none⟩) 2 2) (.slice (some ⟨lo15, 0, none⟩) 2 2) (.slice (some ⟨lo20, 0, none⟩) 2 2) (Nat.le_refl _) h.fb, st3.set3_same (.slice (some ⟨lo0, 0, none⟩) 2 2) (.slice (some ⟨lo15, 0, none⟩) 2 2) (.slice (some ⟨lo20, 0, none⟩) 2 2) hk, fun _ => ⟨e0.out.1, e0.out.2.1, by rw [hw.size]; exact e0.out.2.2.1, ⟨(e0.out.2.2.2).1, (e0.out.2.2.2).2.1, (e0.out.2.2.2).2.2.wrote hw (fun p hp => by have e1 : p.block = w.heap.size := hp; have := e0.out.1; omega)⟩⟩, h.f1, h.f2, h.d2x1, h.f3, h.d3x2, h.f4, h.f5, h.d5x4, h.f6, h.d6x5, fun _ => ⟨e7.out.1, e7.out.2.1, by rw [hw.size]; exact e7.out.2.2.1, ⟨(e7.out.2.2.2).1, (e7.out.2.2.2).2.1, (e7.out.2.2.2).2.2.wrote hw (fun p hp => by have e1 : p.block = w.heap.size := hp; have := e7.out.1; omega)⟩⟩, h.d7x3, h.d7x6, h.f8, h.f9, h.d9x8, h.f10, h.d10x9, h.f11, h.f12, h.d12x11, h.f13, h.d13x12, fun _ => ⟨e14.out.1, e14.out.2.1, by rw [hw.size]; exact e14.out.2.2.1, ⟨(e14.out.2.2.2).1, (e14.out.2.2.2).2.1, (e14.out.2.2.2).2.2.wrote hw (fun p hp => by have e1 : p.block = w.heap.size := hp; have := e14.out.1; omega)⟩⟩, h.d14x10, h.d14x13, fun _ => ⟨e15.out.1, e15.out.2.1, by rw [hw.size]; exact e15.out.2.2.1, ⟨(e15.out.2.2.2).1, (e15.out.2.2.2).2.1, (e15.out.2.2.2).2.2.wrote hw (fun p hp => by have e1 : p.block = w.heap.size := hp; have := e15.out.1; omega)⟩⟩, h.d15x7, h.d15x14, h.f16, fun _ => ⟨e17.out.1, e17.out.2.1, by rw [hw.size]; exact e17.out.2.2.1, ((e17.out.2.2.2)).wrote hw (fun p hp => by have e1 : p.block = w.heap.size := hp; have := e17.out.1; omega)⟩, h.d17x16, h.f18, fun _ => ⟨e19.out.1, e19.out.2.1, by rw [hw.size]; exact e19.out.2.2.1, ((e19.out.2.2.2)).wrote hw (fun p hp => by have e1 : p.block = w.heap.size := hp; have := e19.out.1; omega)⟩, h.d19x18, fun _ => ⟨e20.out.1, e20.out.2.1, by rw [hw.size]; exact e20.out.2.2.1, ⟨(e20.out.2.2.2).1, (e20.out.2.2.2).2.1, (e20.out.2.2.2).2.2.wrote hw (fun p hp => by have e1 : p.block = w.heap.size := hp; have := e20.out.1; omega)⟩⟩, h.d20x17, h.d20x19, h.f21, h.d21x0, h.d21x15, h.d21x20, fun _ => d21, h.a0x7, h.a0x14, h.a0x15, h.a0x17, h.a0x19, h.a0x20, h.a7x14, h.a7x15, h.a7x17, h.a7x19, h.a7x20, h.a14x15, h.a14x17, h.a14x19, h.a14x20, h.a15x17, h.a15x19, h.a15x20, h.a17x19, h.a17x20, h.a19x20⟩
  · rintro l a' W ⟨lo0, hi0, lo7, hi7, lo14, hi14, lo15, hi15, lo17, hi17, lo19, hi19, lo20, hi20, s5, s6, s7, s8, s9, s10, s11, s12, s13, s14, s15, s16, s17, s18, s19, s20, s21, s22, s23, s24, s25, s26, rfl, hsz, h⟩ hr
    have hup : ∀ i, i < 23 → l.getD i false = true := inv.all_upm (by kernel_rfl) hsz hr
    obtain rfl := h.f1 (hup 1 (by omega))
    obtain rfl := h.f2 (hup 2 (by omega))
    obtain rfl := h.f3 (hup 3 (by omega))
    obtain rfl := h.f4 (hup 4 (by omega))
    obtain rfl := h.f5 (hup 5 (by omega))
    obtain rfl := h.f6 (hup 6 (by omega))
    obtain rfl := h.f8 (hup 8 (by omega))
    obtain rfl := h.f9 (hup 9 (by omega))
    obtain rfl := h.f10 (hup 10 (by omega))
    obtain rfl := h.f11 (hup 11 (by omega))
    obtain rfl := h.f12 (hup 12 (by omega))
    obtain rfl := h.f13 (hup 13 (by omega))
    obtain rfl := h.f16 (hup 16 (by omega))
    obtain rfl := h.f18 (hup 18 (by omega))
    obtain rfl := h.f21 (hup 21 (by omega))
    have hk := h.fk
    rw [if_pos (hup 22 (by omega))] at hk
    have e0 := h.f0 (hup 0 (by omega))
    have e7 := h.f7 (hup 7 (by omega))
    have e14 := h.f14 (hup 14 (by omega))
    have e15 := h.f15 (hup 15 (by omega))
    have e17 := h.f17 (hup 17 (by omega))
    have e19 := h.f19 (hup 19 (by omega))
    have e20 := h.f20 (hup 20 (by omega))
    have x0x7 := h.a0x7 (hup 0 (by omega)) (hup 7 (by omega))
    have x0x14 := h.a0x14 (hup 0 (by omega)) (hup 14 (by omega))
    have x0x15 := h.a0x15 (hup 0 (by omega)) (hup 15 (by omega))
    have x0x17 := h.a0x17 (hup 0 (by omega)) (hup 17 (by omega))
    have x0x19 := h.a0x19 (hup 0 (by omega)) (hup 19 (by omega))
    have x0x20 := h.a0x20 (hup 0 (by omega)) (hup 20 (by omega))
    have x7x14 := h.a7x14 (hup 7 (by omega)) (hup 14 (by omega))
    have x7x15 := h.a7x15 (hup 7 (by omega)) (hup 15 (by omega))
    have x7x17 := h.a7x17 (hup 7 (by omega)) (hup 17 (by omega))
    have x7x19 := h.a7x19 (hup 7 (by omega)) (hup 19 (by omega))
    have x7x20 := h.a7x20 (hup 7 (by omega)) (hup 20 (by omega))
    have x14x15 := h.a14x15 (hup 14 (by omega)) (hup 15 (by omega))
    have x14x17 := h.a14x17 (hup 14 (by omega)) (hup 17 (by omega))
    have x14x19 := h.a14x19 (hup 14 (by omega)) (hup 19 (by omega))
    have x14x20 := h.a14x20 (hup 14 (by omega)) (hup 20 (by omega))
    have x15x17 := h.a15x17 (hup 15 (by omega)) (hup 17 (by omega))
    have x15x19 := h.a15x19 (hup 15 (by omega)) (hup 19 (by omega))
    have x15x20 := h.a15x20 (hup 15 (by omega)) (hup 20 (by omega))
    have x17x19 := h.a17x19 (hup 17 (by omega)) (hup 19 (by omega))
    have x17x20 := h.a17x20 (hup 17 (by omega)) (hup 20 (by omega))
    have x19x20 := h.a19x20 (hup 19 (by omega)) (hup 20 (by omega))
    have hfb := h.fb
    clear h hup hr hsz
    obtain ⟨n0, _, _, rfl, _, hI⟩ := e0
    obtain ⟨n1, _, _, rfl, _, hA⟩ := e7
    obtain ⟨n2, _, _, rfl, _, hB⟩ := e14
    obtain ⟨n3, _, _, rfl, _, hC⟩ := e15
    obtain ⟨n4, _, _, rfl, _, hD⟩ := e20
    obtain ⟨n5, _, _, hS⟩ := e17
    obtain ⟨n6, _, _, hT⟩ := e19
    obtain ⟨c0, c1, c2, c3⟩ := three_cells hk
    have HO : Hid (∀ W', Wrote (fun p => p.block ≤ w.heap.size) W W' → RV W' (.slice (some ⟨lo0, 0, none⟩) 2 2) [0, 1] (.slice (some ⟨lo15, 0, none⟩) 2 2) [[x0, x1], [x2, x3]] (.slice (some ⟨lo20, 0, none⟩) 2 2) [ys, ys]) := Lib.hid (fun W' hw =>
      have b : ∀ {g : Nat} {t : TypeId} {cs : Array Value}, w.heap.size + 1 ≤ g → Blk W g t cs → Blk W' g t cs := fun hg hB => hB.wrote hw (fun p hp e => by have : p.block ≤ w.heap.size := hp; omega)
      have c : ∀ {g T : Nat} {v : Value} {xs : List Int}, w.heap.size + 1 ≤ g → OwnInts W g T v xs → Ints W' v xs := fun hg hB => (hB.wrote hw (fun p hp => .inl (by have : p.block ≤ w.heap.size := hp; omega))).ints
      ⟨(st3.ints_blk (xs := [0, 1]) rfl (b n0 hI) (by unfold maxLen; decide)).ints, st3.rows_blk2 (b n3 hC) (st3.ints_blk (xs := [x0, x1]) rfl (b n1 hA) (show (2 : Nat) ≤ maxLen by unfold maxLen; decide)).ints (st3.ints_blk (xs := [x2, x3]) rfl (b n2 hB) (show (2 : Nat) ≤ maxLen by unfold maxLen; decide)).ints, st3.rows_blk2 (b n4 hD) (c n5 hS) (c n6 hT)⟩)
    have HF := Lib.hid hfb
    clear n0 n1 n2 n3 n4 n5 n6 x0x7 x0x14 x0x15 x0x17 x0x19 x0x20 x7x14 x7x15 x7x17 x7x19 x7x20 x14x15 x14x17 x14x19 x14x20 x15x17 x15x19 x15x20 x17x19 x17x20 x19x20 hI hA hB hC hD hS hT hfb
    go_wp2_with fail
    refine bodyPost_ret (v := .agg #[.slice (some ⟨lo0, 0, none⟩) 2 2, .slice (some ⟨lo15, 0, none⟩) 2 2, .slice (some ⟨lo20, 0, none⟩) 2 2]) (by simp [results, Try.results78, go_sem, c0, c1, c2]) rfl ⟨_, _, _, rfl, HO.out, HF.out⟩



set_option maxRecDepth 100000 in
set_option maxHeartbeats 4000000 in
theorem spec_sumby (v : Value) (xs : List Int) (w : World) (h : Ints w v xs) :
    Calls Try.prog 24 #[v] w fun e w' => ∃ sv u nv, e = .returned (.tuple #[.agg #[sv, u, nv], .bool (sumR xs).ok]) ∧ RV w' sv (sumR xs).f u (sumR xs).k nv (sumR xs).s ∧ Below w.heap.size w w' := by
  have B0 := Lib.hid (below_al (Below.refl w.heap.size w) (.cells #[.slice none 0 0, .slice none 0 0, .slice none 0 0] 28))
  have R0 := Lib.hid (Blk.new w 28 #[.slice none 0 0, .slice none 0 0, .slice none 0 0])
  have HB := play.spec_bits v xs 4 _ (h.below B0.out)
  by_cases hb : within 4 0 1 xs
  · rw [withinB_yes hb] at HB
    have H0 := Lib.hid HB
    have HE := Lib.hid (sumR_yes hb)
    have B1 := Lib.hid (below_al B0.out (.cells #[.int .i64 0, .int .i64 1, .int .i64 1, .int .i64 0] 3))
    have R1 := Lib.hid (R0.out.alloc (.cells #[.int .i64 0, .int .i64 1, .int .i64 1, .int .i64 0] 3))
    have HR : Hid (Calls Try.prog 78 #[v, .slice (some ⟨w.heap.size + 1, 0, none⟩) 4 4] ((w.alloc (.cells #[.slice none 0 0, .slice none 0 0, .slice none 0 0] 28)).alloc (.cells #[.int .i64 0, .int .i64 1, .int .i64 1, .int .i64 0] 3)) fun e w' => ∃ sv u nv, e = .returned (.agg #[sv, u, nv]) ∧ (∀ W', Wrote (fun p => p.block ≤ ((w.alloc (.cells #[.slice none 0 0, .slice none 0 0, .slice none 0 0] 28)).alloc (.cells #[.int .i64 0, .int .i64 1, .int .i64 1, .int .i64 0] 3)).heap.size) w' W' → RV W' sv [0, 1] u (halves xs) nv [[0, 1, 1, 0], [0, 1, 1, 0]]) ∧ Below ((w.alloc (.cells #[.slice none 0 0, .slice none 0 0, .slice none 0 0] 28)).alloc (.cells #[.int .i64 0, .int .i64 1, .int .i64 1, .int .i64 0] 3)).heap.size ((w.alloc (.cells #[.slice none 0 0, .slice none 0 0, .slice none 0 0] 28)).alloc (.cells #[.int .i64 0, .int .i64 1, .int .i64 1, .int .i64 0] 3)) w') := Lib.hid (by
      have := l10Made v _ xs [0, 1, 1, 0] _ (h.below B1.out) (four_new (w.alloc (.cells #[.slice none 0 0, .slice none 0 0, .slice none 0 0] 28)) _ 0 1 1 0 rfl) (by have := hb.1; omega) rfl
      simpa using this)
    clear HB hb h
    go_enter Try.func24, Try.ntmps24
    go_wp2_with fail
    refine H0.out.mono ?_
    rintro e w' ⟨rfl, rfl⟩
    go_wp2_with fail
    refine HR.out.mono ?_
    rintro e w3 ⟨sv, u, nv, rfl, hO, hb3⟩
    obtain ⟨va, vn, vc, ua, un, uc, na, nn, nc, rfl, rfl, rfl⟩ := (hO _ (Wrote.refl _ _)).shape
    have B3 := Lib.hid (below_tr B1.out hb3)
    have R3 := Lib.hid (R1.out.below hb3)
    have HO := Lib.hid hO
    clear hO hb3 HR
    obtain ⟨r0, r1, r2, r3⟩ := three_cells R3.out
    have rf : ∀ k, w3.frozen? ⟨w.heap.size, k, none⟩ = false := fun k => Joins.unfrozen_of_block R3.out k
    go_wp2_with fail
    refine bodyPost_ret (v := .tuple #[.agg #[.slice va vn vc, .slice ua un uc, .slice na nn nc], .bool true]) (by simp [results, Try.results24, go_sem, r0, r1, r2]) rfl ?_
    rw [HE.out]
    refine ⟨_, _, _, rfl, HO.out _ ?_, ?_⟩
    · repeat (first | exact Wrote.refl _ _ | refine Wrote.setCell ?_ (by simp <;> omega) _)
    · repeat (first | (with_reducible exact B3.out) | refine Below.setCell ?_ (by simp <;> omega) _)
  · rw [withinB_no hb] at HB
    have H0 := Lib.hid HB
    have HE := Lib.hid (sumR_no hb)
    clear HB hb h
    obtain ⟨r0, r1, r2, r3⟩ := three_cells R0.out
    have rf : ∀ k, (w.alloc (.cells #[.slice none 0 0, .slice none 0 0, .slice none 0 0] 28)).frozen? ⟨w.heap.size, k, none⟩ = false := fun k => Joins.unfrozen_of_block R0.out k
    go_enter Try.func24, Try.ntmps24
    go_wp2_with fail
    refine H0.out.mono ?_
    rintro e w' ⟨rfl, rfl⟩
    go_wp2_with fail
    refine bodyPost_ret (v := .tuple #[.agg #[.slice none 0 0, .slice none 0 0, .slice none 0 0], .bool false]) (by simp [results, Try.results24, go_sem, r0, r1, r2]) rfl ?_
    rw [HE.out]
    refine ⟨_, _, _, rfl, ⟨Ints.nil _, (OwnRows.nil _ 0 0).rows, (OwnRows.nil _ 0 0).rows⟩, ?_⟩
    · repeat (first | (with_reducible exact B0.out) | refine Below.setCell ?_ (by simp <;> omega) _)



set_option maxRecDepth 100000 in
set_option maxHeartbeats 4000000 in
theorem l10Named (a : Int) (w : World) :
    Calls Try.prog 73 #[.int .i64 a] w fun e w' => ∃ sv u nv, e = .returned (.agg #[sv, u, nv]) ∧ (∀ W', Wrote (fun p => p.block ≤ w.heap.size) w' W' → RV W' sv [0, 1] u (halves [0, 0, 1, 1]) nv [say a, say a]) ∧ Below w.heap.size w w' := by
  by_cases h1 : a = 1
  · subst h1
    have B1 : Hid (Below w.heap.size w ((((w.alloc (.cells #[.slice none 0 0, .slice none 0 0, .slice none 0 0] 28)).alloc (.cells #[.int .i64 0, .int .i64 1, .int .i64 1, .int .i64 0] 3)).alloc (.cells #[.int .i64 0, .int .i64 0, .int .i64 1, .int .i64 1] 3)).alloc (.cells #[.int .i64 0, .int .i64 0, .int .i64 1, .int .i64 1] 3))) := Lib.hid (by repeat (first | exact Below.refl _ _ | refine below_al ?_ _))
    have R1 : Hid (Blk ((((w.alloc (.cells #[.slice none 0 0, .slice none 0 0, .slice none 0 0] 28)).alloc (.cells #[.int .i64 0, .int .i64 1, .int .i64 1, .int .i64 0] 3)).alloc (.cells #[.int .i64 0, .int .i64 0, .int .i64 1, .int .i64 1] 3)).alloc (.cells #[.int .i64 0, .int .i64 0, .int .i64 1, .int .i64 1] 3)) w.heap.size 28 #[.slice none 0 0, .slice none 0 0, .slice none 0 0]) := Lib.hid (by repeat (first | exact Blk.new _ _ _ | refine Blk.alloc ?_ _))
    have HE : Hid (say 1 = [0, 0, 1, 1]) := Lib.hid (rfl)
    have HR : Hid (Calls Try.prog 78 #[.slice (some ⟨w.heap.size + 1 + 1 + 1, 0, none⟩) 4 4, .slice (some ⟨w.heap.size + 1 + 1, 0, none⟩) 4 4] ((((w.alloc (.cells #[.slice none 0 0, .slice none 0 0, .slice none 0 0] 28)).alloc (.cells #[.int .i64 0, .int .i64 1, .int .i64 1, .int .i64 0] 3)).alloc (.cells #[.int .i64 0, .int .i64 0, .int .i64 1, .int .i64 1] 3)).alloc (.cells #[.int .i64 0, .int .i64 0, .int .i64 1, .int .i64 1] 3)) fun e w' => ∃ sv u nv, e = .returned (.agg #[sv, u, nv]) ∧ (∀ W', Wrote (fun p => p.block ≤ ((((w.alloc (.cells #[.slice none 0 0, .slice none 0 0, .slice none 0 0] 28)).alloc (.cells #[.int .i64 0, .int .i64 1, .int .i64 1, .int .i64 0] 3)).alloc (.cells #[.int .i64 0, .int .i64 0, .int .i64 1, .int .i64 1] 3)).alloc (.cells #[.int .i64 0, .int .i64 0, .int .i64 1, .int .i64 1] 3)).heap.size) w' W' → RV W' sv [0, 1] u (halves [0, 0, 1, 1]) nv [[0, 0, 1, 1], [0, 0, 1, 1]]) ∧ Below ((((w.alloc (.cells #[.slice none 0 0, .slice none 0 0, .slice none 0 0] 28)).alloc (.cells #[.int .i64 0, .int .i64 1, .int .i64 1, .int .i64 0] 3)).alloc (.cells #[.int .i64 0, .int .i64 0, .int .i64 1, .int .i64 1] 3)).alloc (.cells #[.int .i64 0, .int .i64 0, .int .i64 1, .int .i64 1] 3)).heap.size ((((w.alloc (.cells #[.slice none 0 0, .slice none 0 0, .slice none 0 0] 28)).alloc (.cells #[.int .i64 0, .int .i64 1, .int .i64 1, .int .i64 0] 3)).alloc (.cells #[.int .i64 0, .int .i64 0, .int .i64 1, .int .i64 1] 3)).alloc (.cells #[.int .i64 0, .int .i64 0, .int .i64 1, .int .i64 1] 3)) w') := Lib.hid (by
      have := l10Made _ _ [0, 0, 1, 1] [0, 0, 1, 1] _ (four_new (((w.alloc (.cells #[.slice none 0 0, .slice none 0 0, .slice none 0 0] 28)).alloc (.cells #[.int .i64 0, .int .i64 1, .int .i64 1, .int .i64 0] 3)).alloc (.cells #[.int .i64 0, .int .i64 0, .int .i64 1, .int .i64 1] 3)) [0, 0, 1, 1] 0 0 1 1 rfl) ((four_new ((w.alloc (.cells #[.slice none 0 0, .slice none 0 0, .slice none 0 0] 28)).alloc (.cells #[.int .i64 0, .int .i64 1, .int .i64 1, .int .i64 0] 3)) [0, 0, 1, 1] 0 0 1 1 rfl).below (below_al (Below.refl _ _) (.cells #[.int .i64 0, .int .i64 0, .int .i64 1, .int .i64 1] 3))) rfl rfl
      simpa using this)
    rw [HE.out]
    go_enter Try.func73, Try.ntmps73
    go_wp2_with fail
    refine HR.out.mono ?_
    rintro e w3 ⟨sv, u, nv, rfl, hO, hb3⟩
    obtain ⟨va, vn, vc, ua, un, uc, na, nn, nc, rfl, rfl, rfl⟩ := (hO _ (Wrote.refl _ _)).shape
    have B3 := Lib.hid (below_tr B1.out hb3)
    have R3 := Lib.hid (R1.out.below hb3)
    have HO := Lib.hid hO
    clear hO hb3 HR
    obtain ⟨r0, r1, r2, r3⟩ := three_cells R3.out
    have rf : ∀ k, w3.frozen? ⟨w.heap.size, k, none⟩ = false := fun k => Joins.unfrozen_of_block R3.out k
    go_wp2_with fail
    refine bodyPost_ret (v := .agg #[.slice va vn vc, .slice ua un uc, .slice na nn nc]) (by simp [results, Try.results73, go_sem, r0, r1, r2]) rfl ?_
    refine ⟨_, _, _, rfl, fun W' hW => HO.out _ (Wrote.trans ?_ (hW.mono (fun p hp => by have hp' : p.block ≤ w.heap.size := hp; simp; omega))), ?_⟩
    · repeat (first | exact Wrote.refl _ _ | refine Wrote.setCell ?_ (by simp <;> omega) _)
    · repeat (first | (with_reducible exact B3.out) | refine Below.setCell ?_ (by simp <;> omega) _)
  by_cases h2 : a = 2
  · subst h2
    clear h1
    have B1 : Hid (Below w.heap.size w ((((w.alloc (.cells #[.slice none 0 0, .slice none 0 0, .slice none 0 0] 28)).alloc (.cells #[.int .i64 0, .int .i64 1, .int .i64 1, .int .i64 0] 3)).alloc (.cells #[.int .i64 0, .int .i64 1, .int .i64 0, .int .i64 1] 3)).alloc (.cells #[.int .i64 0, .int .i64 0, .int .i64 1, .int .i64 1] 3))) := Lib.hid (by repeat (first | exact Below.refl _ _ | refine below_al ?_ _))
    have R1 : Hid (Blk ((((w.alloc (.cells #[.slice none 0 0, .slice none 0 0, .slice none 0 0] 28)).alloc (.cells #[.int .i64 0, .int .i64 1, .int .i64 1, .int .i64 0] 3)).alloc (.cells #[.int .i64 0, .int .i64 1, .int .i64 0, .int .i64 1] 3)).alloc (.cells #[.int .i64 0, .int .i64 0, .int .i64 1, .int .i64 1] 3)) w.heap.size 28 #[.slice none 0 0, .slice none 0 0, .slice none 0 0]) := Lib.hid (by repeat (first | exact Blk.new _ _ _ | refine Blk.alloc ?_ _))
    have HE : Hid (say 2 = [0, 1, 0, 1]) := Lib.hid (rfl)
    have HR : Hid (Calls Try.prog 78 #[.slice (some ⟨w.heap.size + 1 + 1 + 1, 0, none⟩) 4 4, .slice (some ⟨w.heap.size + 1 + 1, 0, none⟩) 4 4] ((((w.alloc (.cells #[.slice none 0 0, .slice none 0 0, .slice none 0 0] 28)).alloc (.cells #[.int .i64 0, .int .i64 1, .int .i64 1, .int .i64 0] 3)).alloc (.cells #[.int .i64 0, .int .i64 1, .int .i64 0, .int .i64 1] 3)).alloc (.cells #[.int .i64 0, .int .i64 0, .int .i64 1, .int .i64 1] 3)) fun e w' => ∃ sv u nv, e = .returned (.agg #[sv, u, nv]) ∧ (∀ W', Wrote (fun p => p.block ≤ ((((w.alloc (.cells #[.slice none 0 0, .slice none 0 0, .slice none 0 0] 28)).alloc (.cells #[.int .i64 0, .int .i64 1, .int .i64 1, .int .i64 0] 3)).alloc (.cells #[.int .i64 0, .int .i64 1, .int .i64 0, .int .i64 1] 3)).alloc (.cells #[.int .i64 0, .int .i64 0, .int .i64 1, .int .i64 1] 3)).heap.size) w' W' → RV W' sv [0, 1] u (halves [0, 0, 1, 1]) nv [[0, 1, 0, 1], [0, 1, 0, 1]]) ∧ Below ((((w.alloc (.cells #[.slice none 0 0, .slice none 0 0, .slice none 0 0] 28)).alloc (.cells #[.int .i64 0, .int .i64 1, .int .i64 1, .int .i64 0] 3)).alloc (.cells #[.int .i64 0, .int .i64 1, .int .i64 0, .int .i64 1] 3)).alloc (.cells #[.int .i64 0, .int .i64 0, .int .i64 1, .int .i64 1] 3)).heap.size ((((w.alloc (.cells #[.slice none 0 0, .slice none 0 0, .slice none 0 0] 28)).alloc (.cells #[.int .i64 0, .int .i64 1, .int .i64 1, .int .i64 0] 3)).alloc (.cells #[.int .i64 0, .int .i64 1, .int .i64 0, .int .i64 1] 3)).alloc (.cells #[.int .i64 0, .int .i64 0, .int .i64 1, .int .i64 1] 3)) w') := Lib.hid (by
      have := l10Made _ _ [0, 0, 1, 1] [0, 1, 0, 1] _ (four_new (((w.alloc (.cells #[.slice none 0 0, .slice none 0 0, .slice none 0 0] 28)).alloc (.cells #[.int .i64 0, .int .i64 1, .int .i64 1, .int .i64 0] 3)).alloc (.cells #[.int .i64 0, .int .i64 1, .int .i64 0, .int .i64 1] 3)) [0, 0, 1, 1] 0 0 1 1 rfl) ((four_new ((w.alloc (.cells #[.slice none 0 0, .slice none 0 0, .slice none 0 0] 28)).alloc (.cells #[.int .i64 0, .int .i64 1, .int .i64 1, .int .i64 0] 3)) [0, 1, 0, 1] 0 1 0 1 rfl).below (below_al (Below.refl _ _) (.cells #[.int .i64 0, .int .i64 0, .int .i64 1, .int .i64 1] 3))) rfl rfl
      simpa using this)
    rw [HE.out]
    go_enter Try.func73, Try.ntmps73
    go_wp2_with fail
    refine HR.out.mono ?_
    rintro e w3 ⟨sv, u, nv, rfl, hO, hb3⟩
    obtain ⟨va, vn, vc, ua, un, uc, na, nn, nc, rfl, rfl, rfl⟩ := (hO _ (Wrote.refl _ _)).shape
    have B3 := Lib.hid (below_tr B1.out hb3)
    have R3 := Lib.hid (R1.out.below hb3)
    have HO := Lib.hid hO
    clear hO hb3 HR
    obtain ⟨r0, r1, r2, r3⟩ := three_cells R3.out
    have rf : ∀ k, w3.frozen? ⟨w.heap.size, k, none⟩ = false := fun k => Joins.unfrozen_of_block R3.out k
    go_wp2_with fail
    refine bodyPost_ret (v := .agg #[.slice va vn vc, .slice ua un uc, .slice na nn nc]) (by simp [results, Try.results73, go_sem, r0, r1, r2]) rfl ?_
    refine ⟨_, _, _, rfl, fun W' hW => HO.out _ (Wrote.trans ?_ (hW.mono (fun p hp => by have hp' : p.block ≤ w.heap.size := hp; simp; omega))), ?_⟩
    · repeat (first | exact Wrote.refl _ _ | refine Wrote.setCell ?_ (by simp <;> omega) _)
    · repeat (first | (with_reducible exact B3.out) | refine Below.setCell ?_ (by simp <;> omega) _)
  have hsay : say a = [0, 1, 1, 0] := by unfold say; rw [if_neg h1, if_neg h2]
  have e1 : (a == 1) = false := by simp [h1]
  have e2 : (a == 2) = false := by simp [h2]
  have B1 : Hid (Below w.heap.size w (((w.alloc (.cells #[.slice none 0 0, .slice none 0 0, .slice none 0 0] 28)).alloc (.cells #[.int .i64 0, .int .i64 1, .int .i64 1, .int .i64 0] 3)).alloc (.cells #[.int .i64 0, .int .i64 0, .int .i64 1, .int .i64 1] 3))) := Lib.hid (by repeat (first | exact Below.refl _ _ | refine below_al ?_ _))
  have R1 : Hid (Blk (((w.alloc (.cells #[.slice none 0 0, .slice none 0 0, .slice none 0 0] 28)).alloc (.cells #[.int .i64 0, .int .i64 1, .int .i64 1, .int .i64 0] 3)).alloc (.cells #[.int .i64 0, .int .i64 0, .int .i64 1, .int .i64 1] 3)) w.heap.size 28 #[.slice none 0 0, .slice none 0 0, .slice none 0 0]) := Lib.hid (by repeat (first | exact Blk.new _ _ _ | refine Blk.alloc ?_ _))
  have HE : Hid (say a = [0, 1, 1, 0]) := Lib.hid (hsay)
  have HR : Hid (Calls Try.prog 78 #[.slice (some ⟨w.heap.size + 1 + 1, 0, none⟩) 4 4, .slice (some ⟨w.heap.size + 1, 0, none⟩) 4 4] (((w.alloc (.cells #[.slice none 0 0, .slice none 0 0, .slice none 0 0] 28)).alloc (.cells #[.int .i64 0, .int .i64 1, .int .i64 1, .int .i64 0] 3)).alloc (.cells #[.int .i64 0, .int .i64 0, .int .i64 1, .int .i64 1] 3)) fun e w' => ∃ sv u nv, e = .returned (.agg #[sv, u, nv]) ∧ (∀ W', Wrote (fun p => p.block ≤ (((w.alloc (.cells #[.slice none 0 0, .slice none 0 0, .slice none 0 0] 28)).alloc (.cells #[.int .i64 0, .int .i64 1, .int .i64 1, .int .i64 0] 3)).alloc (.cells #[.int .i64 0, .int .i64 0, .int .i64 1, .int .i64 1] 3)).heap.size) w' W' → RV W' sv [0, 1] u (halves [0, 0, 1, 1]) nv [[0, 1, 1, 0], [0, 1, 1, 0]]) ∧ Below (((w.alloc (.cells #[.slice none 0 0, .slice none 0 0, .slice none 0 0] 28)).alloc (.cells #[.int .i64 0, .int .i64 1, .int .i64 1, .int .i64 0] 3)).alloc (.cells #[.int .i64 0, .int .i64 0, .int .i64 1, .int .i64 1] 3)).heap.size (((w.alloc (.cells #[.slice none 0 0, .slice none 0 0, .slice none 0 0] 28)).alloc (.cells #[.int .i64 0, .int .i64 1, .int .i64 1, .int .i64 0] 3)).alloc (.cells #[.int .i64 0, .int .i64 0, .int .i64 1, .int .i64 1] 3)) w') := Lib.hid (by
    have := l10Made _ _ [0, 0, 1, 1] [0, 1, 1, 0] _ (four_new ((w.alloc (.cells #[.slice none 0 0, .slice none 0 0, .slice none 0 0] 28)).alloc (.cells #[.int .i64 0, .int .i64 1, .int .i64 1, .int .i64 0] 3)) [0, 0, 1, 1] 0 0 1 1 rfl) ((four_new (w.alloc (.cells #[.slice none 0 0, .slice none 0 0, .slice none 0 0] 28)) [0, 1, 1, 0] 0 1 1 0 rfl).below (below_al (Below.refl _ _) (.cells #[.int .i64 0, .int .i64 0, .int .i64 1, .int .i64 1] 3))) rfl rfl
    simpa using this)
  clear h1 h2 hsay
  rw [HE.out]
  go_enter Try.func73, Try.ntmps73
  go_wp2_with fail
  refine HR.out.mono ?_
  rintro e w3 ⟨sv, u, nv, rfl, hO, hb3⟩
  obtain ⟨va, vn, vc, ua, un, uc, na, nn, nc, rfl, rfl, rfl⟩ := (hO _ (Wrote.refl _ _)).shape
  have B3 := Lib.hid (below_tr B1.out hb3)
  have R3 := Lib.hid (R1.out.below hb3)
  have HO := Lib.hid hO
  clear hO hb3 HR
  obtain ⟨r0, r1, r2, r3⟩ := three_cells R3.out
  have rf : ∀ k, w3.frozen? ⟨w.heap.size, k, none⟩ = false := fun k => Joins.unfrozen_of_block R3.out k
  go_wp2_with fail
  refine bodyPost_ret (v := .agg #[.slice va vn vc, .slice ua un uc, .slice na nn nc]) (by simp [results, Try.results73, go_sem, r0, r1, r2]) rfl ?_
  refine ⟨_, _, _, rfl, fun W' hW => HO.out _ (Wrote.trans ?_ (hW.mono (fun p hp => by have hp' : p.block ≤ w.heap.size := hp; simp; omega))), ?_⟩
  · repeat (first | exact Wrote.refl _ _ | refine Wrote.setCell ?_ (by simp <;> omega) _)
  · repeat (first | (with_reducible exact B3.out) | refine Below.setCell ?_ (by simp <;> omega) _)



set_option maxRecDepth 100000 in
set_option maxHeartbeats 4000000 in
theorem spec_named (a : Int) (w : World) :
    Calls Try.prog 20 #[.int .i64 a] w fun e w' => ∃ sv u nv, e = .returned (.tuple #[.agg #[sv, u, nv], .bool (named a).ok]) ∧ RV w' sv (named a).f u (named a).k nv (named a).s ∧ Below w.heap.size w w' := by
  have B1 := Lib.hid (below_al (Below.refl w.heap.size w) (.cells #[.slice none 0 0, .slice none 0 0, .slice none 0 0] 28))
  have R1 := Lib.hid (Blk.new w 28 #[.slice none 0 0, .slice none 0 0, .slice none 0 0])
  by_cases ha : 1 ≤ a ∧ a ≤ 3
  · have HE : Hid (named a = made [0, 0, 1, 1] (say a)) := Lib.hid (if_pos ha)
    have HV := Lib.hid (val.in_yes a 1 3 (w.alloc (.cells #[.slice none 0 0, .slice none 0 0, .slice none 0 0] 28)) ha.1 ha.2)
    have HR := Lib.hid (l10Named a (w.alloc (.cells #[.slice none 0 0, .slice none 0 0, .slice none 0 0] 28)))
    clear ha
    go_enter Try.func20, Try.ntmps20
    go_wp2_with fail
    refine HV.out.mono ?_
    rintro e w' ⟨rfl, rfl⟩
    go_wp2_with fail
    refine HR.out.mono ?_
    rintro e w3 ⟨sv, u, nv, rfl, hO, hb3⟩
    obtain ⟨va, vn, vc, ua, un, uc, na, nn, nc, rfl, rfl, rfl⟩ := (hO _ (Wrote.refl _ _)).shape
    have B3 := Lib.hid (below_tr B1.out hb3)
    have R3 := Lib.hid (R1.out.below hb3)
    have HO := Lib.hid hO
    clear hO hb3 HR
    obtain ⟨r0, r1, r2, r3⟩ := three_cells R3.out
    have rf : ∀ k, w3.frozen? ⟨w.heap.size, k, none⟩ = false := fun k => Joins.unfrozen_of_block R3.out k
    go_wp2_with fail
    refine bodyPost_ret (v := .tuple #[.agg #[.slice va vn vc, .slice ua un uc, .slice na nn nc], .bool true]) (by simp [results, Try.results20, go_sem, r0, r1, r2]) rfl ?_
    rw [HE.out]
    refine ⟨_, _, _, rfl, HO.out _ ?_, ?_⟩
    · repeat (first | exact Wrote.refl _ _ | refine Wrote.setCell ?_ (by simp <;> omega) _)
    · repeat (first | (with_reducible exact B3.out) | refine Below.setCell ?_ (by simp <;> omega) _)
  · have HE : Hid (named a = RR.zero) := Lib.hid (if_neg ha)
    have HV := Lib.hid (val.in_no a 1 3 (w.alloc (.cells #[.slice none 0 0, .slice none 0 0, .slice none 0 0] 28)) (by omega))
    clear ha
    obtain ⟨r0, r1, r2, r3⟩ := three_cells R1.out
    have rf : ∀ k, (w.alloc (.cells #[.slice none 0 0, .slice none 0 0, .slice none 0 0] 28)).frozen? ⟨w.heap.size, k, none⟩ = false := fun k => Joins.unfrozen_of_block R1.out k
    go_enter Try.func20, Try.ntmps20
    go_wp2_with fail
    refine HV.out.mono ?_
    rintro e w' ⟨rfl, rfl⟩
    go_wp2_with fail
    refine bodyPost_ret (v := .tuple #[.agg #[.slice none 0 0, .slice none 0 0, .slice none 0 0], .bool false]) (by simp [results, Try.results20, go_sem, r0, r1, r2]) rfl ?_
    rw [HE.out]
    refine ⟨_, _, _, rfl, ⟨Ints.nil _, (OwnRows.nil _ 0 0).rows, (OwnRows.nil _ 0 0).rows⟩, ?_⟩
    · repeat (first | (with_reducible exact B1.out) | refine Below.setCell ?_ (by simp <;> omega) _)


end Go.Proofs.Ytneonebgneonkaa.rby
