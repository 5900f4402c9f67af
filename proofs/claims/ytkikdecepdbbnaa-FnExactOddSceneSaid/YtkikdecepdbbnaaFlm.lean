/- FlipEvent of the model. -/
import Derived.Test.YtkikdecepdbbnaaFle
import Derived.Test.YtkikdecepdbbnaaFlf
import Derived.Test.YtkikdecepdbbnaaInv
import Derived.Test.YtkikdecepdbbnaaOrd
namespace Go.Proofs.Ytkikdecepdbbnaa.flm
open Go.RowKit Go.Deep Go.Proofs.Ytkikdecepdbbnaa.base
open Go.Proofs.Ytkikdecepdbbnaa.rws (total len_le_total)
open Go.Proofs.Ytkikdecepdbbnaa.play (within withinB withinB_yes withinB_no)
open Go.Proofs.Ytkikdecepdbbnaa.scm
open Go.Proofs.Ytkikdecepdbbnaa.lst
open Go.Proofs.Ytkikdecepdbbnaa.fle

theorem ishape {w : World} {B T : Nat} {v : Value} {xs : List Int} (h : OwnInts w B T v xs) : ∃ a c, v = .slice a xs.length c := by obtain ⟨A, c, hv, _⟩ := h.ints; exact ⟨A, c, by rw [hv, len_i64s]⟩
theorem owns_apart {W W' : World} {lo hi e g n : Nat} {v : Value} {xs : List Value} {ys : List Int} (h : W.ownsRow lo e 1 v n xs) (ho : OwnInts W lo hi v ys) (hw : Wrote (fun p => p.block = g) W W') (hx : g < lo ∨ hi ≤ g) (hn : 0 < n) : W'.ownsRow lo e 1 v n xs := by
  obtain ⟨h1, h2⟩ := h
  refine ⟨h1, ?_⟩
  rcases h2 with ⟨h2, h3⟩ | ⟨b, cap, cur, rfl, hB, hg, rest⟩
  · exact .inl ⟨h2, h3⟩
  · refine .inr ⟨b, cap, cur, rfl, hB, (hw.block b (fun p hp e => ?_)).trans hg, rest⟩
    have hp : p.block = g := hp
    have := ho.lt ⟨b, 0, none⟩ ⟨b, 0, n, cap, rfl, rfl, rfl, by simp, by simp; omega⟩
    have : b < hi := this
    omega
/-- what holds while the operations of the region come up, in whatever order -/
structure JJ (b : World) (p : Nat) (x : Int) (A C : Option Addr) (cap cap' : Nat) (xss : List (List Int)) (ws : List Int) (L : Nat → Bool) (g lo4 hi4 lo7 hi7 : Nat) (s20 s21 s22 s23 s24 s25 s26 s27 s28 s6 : Value) (W : World) : Prop where
  fb : Below b.heap.size b W
  f0 : L 0 = true → s20 = .pointer (some ⟨p, 0, none⟩)
  f1 : L 1 = true → s21 = .int .i64 x
  f2 : L 2 = true → s22 = .pointer (some ⟨p, 1, none⟩)
  f3 : L 3 = true → s23 = .slice A xss.length cap
  f4 : L 4 = true → b.heap.size ≤ lo4 ∧ lo4 ≤ hi4 ∧ hi4 ≤ W.heap.size ∧ OwnRows W lo4 hi4 s24 xss
  f5 : L 5 = true → s25 = .pointer (some ⟨p, 2, none⟩)
  f6 : L 6 = true → s26 = .slice C ws.length cap'
  f7 : L 7 = true → b.heap.size ≤ lo7 ∧ lo7 ≤ hi7 ∧ hi7 ≤ W.heap.size ∧ OwnInts W lo7 hi7 s27 ws ∧ (0 < ws.length → W.ownsRow lo7 3 1 s27 ws.length (i64s ws))
  f8 : L 8 = true → L 1 = true ∧ L 4 = true ∧ L 7 = true ∧ s28 = .agg #[.int .i64 x, s24, s27]
  f9 : L 9 = true → b.heap.size ≤ g ∧ g < W.heap.size ∧ s6 = .pointer (some ⟨g, 0, none⟩) ∧ Blk W g 28 (if L 10 = true then #[.int .i64 x, s24, s27] else #[.int .i64 0, .slice none 0 0, .slice none 0 0])
  f10 : L 10 = true → L 9 = true ∧ L 8 = true
  a4x7 : L 4 = true → L 7 = true → hi4 ≤ lo7 ∨ hi7 ≤ lo4
  a4x9 : L 4 = true → L 9 = true → g < lo4 ∨ hi4 ≤ g
  a7x9 : L 7 = true → L 9 = true → g < lo7 ∨ hi7 ≤ g


set_option maxRecDepth 100000 in
set_option maxHeartbeats 8000000 in
theorem spec_any (x : Int) (u : Value) (xss : List (List Int)) (v : Value) (ws : List Int) (t : Int) (w : World) (h : scene.GV w v ws u xss) (hm : total xss ≤ 1048576) :
    Calls Try.prog 40 #[.agg #[.int .i64 x, u, v], .int .i64 t] w fun e w' => ∃ v' u', e = .returned (.tuple #[.agg #[.int .i64 (flipR x xss ws t).x, u', v'], .bool (flipR x xss ws t).ok]) ∧ scene.GV w' v' (flipR x xss ws t).ws u' (flipR x xss ws t).rows ∧ Below w.heap.size w w' := by
  obtain ⟨A, cap, rfl⟩ : ∃ A c, u = .slice A xss.length c := by obtain ⟨A, b, o, cap, R, hu, _⟩ := h.rows.form; exact ⟨A, cap, hu⟩
  obtain ⟨C, cap', rfl⟩ : ∃ A c, v = .slice A ws.length c := by obtain ⟨A, c, hv, _⟩ := h.ints; exact ⟨A, c, by rw [hv, len_i64s]⟩
  have H := Lib.hid h
  obtain ⟨w0, hw0⟩ : ∃ w0, (w.alloc (.cells #[.int .i64 x, .slice A xss.length cap, .slice C ws.length cap'] 28)).alloc (.cells #[.int .i64 0, .slice none 0 0, .slice none 0 0] 28) = w0 := ⟨_, rfl⟩
  have K0 : Hid (Blk w0 w.heap.size 28 #[.int .i64 x, .slice A xss.length cap, .slice C ws.length cap']) := Lib.hid (by rw [← hw0]; exact (Blk.new w _ _).alloc _)
  have R0 : Hid (Blk w0 (w.heap.size + 1) 28 #[.int .i64 0, .slice none 0 0, .slice none 0 0]) := Lib.hid (by
    have := Blk.new (w.alloc (.cells #[.int .i64 x, .slice A xss.length cap, .slice C ws.length cap'] 28)) 28 #[.int .i64 0, .slice none 0 0, .slice none 0 0]
    rw [← hw0]
    simpa using this)
  have B0 : Hid (Below w.heap.size w w0) := Lib.hid (by rw [← hw0]; exact below_al (below_al (Below.refl _ _) _) _)
  have HI := Lib.hid (scv.spec_good x _ xss _ ws w0 (h.below B0.out) hm)
  clear h
  by_cases hok : okScene x xss ws
  · have HI := HI
    rw [sceneB_yes hok] at HI
    have x0 := hok.ev0
    have x1 := hok.ev1
    by_cases tt : 0 ≤ t ∧ t ≤ x - 1
    · obtain ⟨t0, t1⟩ := tt
      rw [flipR_yes ⟨hok, t0, by omega⟩]
      have HLS : Hid (lists 0 xss = xss) := Lib.hid (lists_zero xss)
      have HLW : Hid (ws.length = xss.length) := Lib.hid (by have := hok.sums.1; omega)
      have HW01 := Lib.hid (fun k (hk : k < ws.length) => hok.sums.2 k hk)
      have HLI0 := Lib.hid (fun W (hW : Below w.heap.size w W) => spec_lists _ xss 0 W (H.out.rows.below hW) hok.len (by omega) (fun r hr => (bounds hok r hr).2))
      rw [HLS.out] at HLI0
      have HOW0 := Lib.hid (fun W (hW : Below w.heap.size w W) => own.l1own_any _ ws W (H.out.ints.below hW) (by have := hok.sums.1; have := hok.len; omega))
      have hx10 := hok.len
      have x3 : IntKind.i64.wrap (x - 1) = x - 1 := IntWalk.i64_in _ (by omega)
      clear hok
      obtain ⟨c0, c1, c2, c3⟩ := scene.three_cells K0.out
      go_enter Try.func40, Try.ntmps40
      go_wp2_with fail
      refine HI.out.mono ?_
      rintro e w1 ⟨rfl, hb1⟩
      have B1 := Lib.hid (below_tr B0.out hb1)
      have K1 := Lib.hid (K0.out.below hb1)
      have R1 := Lib.hid (R0.out.below hb1)
      have hr1 := R1.out.lt
      clear c0 c1 c2 c3 hb1 B0 K0 R0
      obtain ⟨c0, c1, c2, c3⟩ := scene.three_cells K1.out
      obtain ⟨r0, r1, r2, r3⟩ := scene.three_cells R1.out
      have rf : ∀ k, w1.frozen? ⟨w.heap.size + 1, k, none⟩ = false := fun k => Joins.unfrozen_of_block R1.out k
      go_wp2_with fail
      refine (val.in_yes _ _ _ _ t0 t1).mono ?_
      rintro e w' ⟨rfl, rfl⟩
      have HLI := Lib.hid (fun W (hW : Below w1.heap.size w1 W) => HLI0.out W (below_tr B1.out hW))
      have HOW := Lib.hid (fun W (hW : Below w1.heap.size w1 W) => HOW0.out W (below_tr B1.out hW))
      clear c0 c1 c2 c3 r0 r1 r2 r3 rf HLI0 HOW0 x3
      go_wp2_with fail
      refine inv.start (by kernel_rfl) (fun l a' W => ∃ (g lo4 hi4 lo7 hi7 : Nat) (s20 s21 s22 s23 s24 s25 s26 s27 s28 s6 : Value), a' = { tmps := #[.agg #[.int .i64 x, .slice A xss.length cap, .slice C ws.length cap'], .int .i64 t, .pointer (some ⟨w.heap.size, 0, none⟩), undef, .pointer (some ⟨w.heap.size + 1, 0, none⟩), .bool false, s6, undef, .agg #[.int .i64 x, .slice A xss.length cap, .slice C ws.length cap'], .bool true, .bool false, .bool false, .int .i64 t, .pointer (some ⟨w.heap.size, 0, none⟩), .int .i64 x, .int .i64 (x - 1), .bool true, .bool false, .bool false, undef, s20, s21, s22, s23, s24, s25, s26, s27, s28, undef, undef, undef, undef, undef, undef, undef, undef, undef, undef, undef, undef, undef, undef, undef, undef, undef, undef, undef, undef, undef, undef, undef, undef, undef], defers := [] } ∧ l.size = 11 ∧ JJ w1 w.heap.size x A C cap cap' xss ws (fun k => l.getD k false) g lo4 hi4 lo7 hi7 s20 s21 s22 s23 s24 s25 s26 s27 s28 s6 W) ?_ ?_ ?_
      · refine ⟨0, 0, 0, 0, 0, _, _, _, _, _, _, _, _, _, _, rfl, by simp, ?_⟩
        exact ⟨below_dr (Below.refl _ _), fun h => by simp at h, fun h => by simp at h, fun h => by simp at h, fun h => by simp at h, fun h => by simp at h, fun h => by simp at h, fun h => by simp at h, fun h => by simp at h, fun h => by simp at h, fun h => by simp at h, fun h => by simp at h, fun h => by simp at h, fun h => by simp at h, fun h => by simp at h⟩
      · rintro l a' W i ⟨g, lo4, hi4, lo7, hi7, s20, s21, s22, s23, s24, s25, s26, s27, s28, s6, rfl, hsz, h⟩ hi
        have hlt : i < 11 := (inv.ready_lt hi).1
        obtain rfl | rfl | rfl | rfl | rfl | rfl | rfl | rfl | rfl | rfl | rfl : i = 0 ∨ i = 1 ∨ i = 2 ∨ i = 3 ∨ i = 4 ∨ i = 5 ∨ i = 6 ∨ i = 7 ∨ i = 8 ∨ i = 9 ∨ i = 10 := by omega
        · obtain ⟨hun, o, ho, hall⟩ := mem_ready.1 hi
          obtain rfl : _ = o := Option.some.inj ho
          have hoff : l.getD 0 false = false := inv.off l 0 hun
          have hup := inv.upd_eq l 0 hun
          refine wpOp_step rfl (fun K' hK => ?_)
          have HK := Lib.hid hK
          clear hK hall ho
          go_simp
          refine HK.out _ _ ⟨g, lo4, hi4, lo7, hi7, _, _, _, _, _, _, _, _, _, _, rfl, by simp [hsz], ?_⟩
          rw [hup]
          exact ⟨h.fb, fun _ => rfl, h.f1, h.f2, h.f3, h.f4, h.f5, h.f6, h.f7, h.f8, h.f9, h.f10, h.a4x7, h.a4x9, h.a7x9⟩
        · obtain ⟨hun, o, ho, hall⟩ := mem_ready.1 hi
          obtain rfl : _ = o := Option.some.inj ho
          have hoff : l.getD 1 false = false := inv.off l 1 hun
          have hup := inv.upd_eq l 1 hun
          have d0 : l.getD 0 false = true := hall ⟨0, .data⟩ (by simp) (by decide)
          obtain rfl := h.f0 d0
          obtain ⟨c0, c1, c2, c3⟩ := scene.three_cells (K1.out.below h.fb)
          refine wpOp_step rfl (fun K' hK => ?_)
          have HK := Lib.hid hK
          clear hK hall ho
          go_simp
          refine HK.out _ _ ⟨g, lo4, hi4, lo7, hi7, _, _, _, _, _, _, _, _, _, _, rfl, by simp [hsz], ?_⟩
          rw [hup]
          exact ⟨h.fb, h.f0, fun _ => rfl, h.f2, h.f3, h.f4, h.f5, h.f6, h.f7, fun hh => ⟨rfl, (h.f8 hh).2.1, (h.f8 hh).2.2.1, (h.f8 hh).2.2.2⟩, h.f9, h.f10, h.a4x7, h.a4x9, h.a7x9⟩
        · obtain ⟨hun, o, ho, hall⟩ := mem_ready.1 hi
          obtain rfl : _ = o := Option.some.inj ho
          have hoff : l.getD 2 false = false := inv.off l 2 hun
          have hup := inv.upd_eq l 2 hun
          refine wpOp_step rfl (fun K' hK => ?_)
          have HK := Lib.hid hK
          clear hK hall ho
          go_simp
          refine HK.out _ _ ⟨g, lo4, hi4, lo7, hi7, _, _, _, _, _, _, _, _, _, _, rfl, by simp [hsz], ?_⟩
          rw [hup]
          exact ⟨h.fb, h.f0, h.f1, fun _ => rfl, h.f3, h.f4, h.f5, h.f6, h.f7, h.f8, h.f9, h.f10, h.a4x7, h.a4x9, h.a7x9⟩
        · obtain ⟨hun, o, ho, hall⟩ := mem_ready.1 hi
          obtain rfl : _ = o := Option.some.inj ho
          have hoff : l.getD 3 false = false := inv.off l 3 hun
          have hup := inv.upd_eq l 3 hun
          have d2 : l.getD 2 false = true := hall ⟨2, .data⟩ (by simp) (by decide)
          obtain rfl := h.f2 d2
          obtain ⟨c0, c1, c2, c3⟩ := scene.three_cells (K1.out.below h.fb)
          refine wpOp_step rfl (fun K' hK => ?_)
          have HK := Lib.hid hK
          clear hK hall ho
          go_simp
          refine HK.out _ _ ⟨g, lo4, hi4, lo7, hi7, _, _, _, _, _, _, _, _, _, _, rfl, by simp [hsz], ?_⟩
          rw [hup]
          exact ⟨h.fb, h.f0, h.f1, h.f2, fun _ => rfl, h.f4, h.f5, h.f6, h.f7, h.f8, h.f9, h.f10, h.a4x7, h.a4x9, h.a7x9⟩
        · obtain ⟨hun, o, ho, hall⟩ := mem_ready.1 hi
          obtain rfl : _ = o := Option.some.inj ho
          have hoff : l.getD 4 false = false := inv.off l 4 hun
          have hup := inv.upd_eq l 4 hun
          have d3 : l.getD 3 false = true := hall ⟨3, .data⟩ (by simp) (by decide)
          obtain rfl := h.f3 d3
          have hnb : ¬ l.getD 8 false = true := fun e => by have hh := h.f8 e; have := hh.2.1; simp only [hoff] at this; cases this
          have hns : ¬ l.getD 10 false = true := fun e => hnb (h.f10 e).2
          refine wpOp_step rfl (fun K' hK => ?_)
          have HK := Lib.hid hK
          clear hK hall ho
          go_simp
          (go_at_call 73; (with_reducible refine (HLI.out _ h.fb).mono ?_); rintro e W' ⟨rv, rfl, hu, hb⟩)
          try go_simp
          refine HK.out _ _ ⟨g, W.heap.size, W'.heap.size, lo7, hi7, _, _, _, _, _, _, _, _, _, _, rfl, by simp [hsz], ?_⟩
          rw [hup]
          exact ⟨below_tr h.fb hb, h.f0, h.f1, h.f2, h.f3, fun _ => ⟨h.fb.size, hb.size, Nat.le_refl _, hu⟩, h.f5, h.f6, fun hh => ⟨(h.f7 hh).1, (h.f7 hh).2.1, Nat.le_trans (h.f7 hh).2.2.1 hb.size, ⟨((h.f7 hh).2.2.2).1.keep hb, fun z => app.owns_below (((h.f7 hh).2.2.2).2 z) hb⟩⟩, fun hh => absurd hh hnb, fun hh => by have h1 := h.f9 hh; have h2 := h1.2.2.2.below hb; have e : inv.upd (fun k => l.getD k false) 4 10 = l.getD 10 false := rfl; rw [if_neg hns] at h2; rw [e, if_neg hns]; exact ⟨h1.1, Nat.lt_of_lt_of_le h1.2.1 hb.size, h1.2.2.1, h2⟩, fun hh => absurd hh hns, fun _ ha => .inr (h.f7 ha).2.2.1, fun _ ha => .inl (h.f9 ha).2.1, h.a7x9⟩
        · obtain ⟨hun, o, ho, hall⟩ := mem_ready.1 hi
          obtain rfl : _ = o := Option.some.inj ho
          have hoff : l.getD 5 false = false := inv.off l 5 hun
          have hup := inv.upd_eq l 5 hun
          refine wpOp_step rfl (fun K' hK => ?_)
          have HK := Lib.hid hK
          clear hK hall ho
          go_simp
          refine HK.out _ _ ⟨g, lo4, hi4, lo7, hi7, _, _, _, _, _, _, _, _, _, _, rfl, by simp [hsz], ?_⟩
          rw [hup]
          exact ⟨h.fb, h.f0, h.f1, h.f2, h.f3, h.f4, fun _ => rfl, h.f6, h.f7, h.f8, h.f9, h.f10, h.a4x7, h.a4x9, h.a7x9⟩
        · obtain ⟨hun, o, ho, hall⟩ := mem_ready.1 hi
          obtain rfl : _ = o := Option.some.inj ho
          have hoff : l.getD 6 false = false := inv.off l 6 hun
          have hup := inv.upd_eq l 6 hun
          have d5 : l.getD 5 false = true := hall ⟨5, .data⟩ (by simp) (by decide)
          obtain rfl := h.f5 d5
          obtain ⟨c0, c1, c2, c3⟩ := scene.three_cells (K1.out.below h.fb)
          refine wpOp_step rfl (fun K' hK => ?_)
          have HK := Lib.hid hK
          clear hK hall ho
          go_simp
          refine HK.out _ _ ⟨g, lo4, hi4, lo7, hi7, _, _, _, _, _, _, _, _, _, _, rfl, by simp [hsz], ?_⟩
          rw [hup]
          exact ⟨h.fb, h.f0, h.f1, h.f2, h.f3, h.f4, h.f5, fun _ => rfl, h.f7, h.f8, h.f9, h.f10, h.a4x7, h.a4x9, h.a7x9⟩
        · obtain ⟨hun, o, ho, hall⟩ := mem_ready.1 hi
          obtain rfl : _ = o := Option.some.inj ho
          have hoff : l.getD 7 false = false := inv.off l 7 hun
          have hup := inv.upd_eq l 7 hun
          have d6 : l.getD 6 false = true := hall ⟨6, .data⟩ (by simp) (by decide)
          obtain rfl := h.f6 d6
          have hnb : ¬ l.getD 8 false = true := fun e => by have hh := h.f8 e; have := hh.2.2.1; simp only [hoff] at this; cases this
          have hns : ¬ l.getD 10 false = true := fun e => hnb (h.f10 e).2
          refine wpOp_step rfl (fun K' hK => ?_)
          have HK := Lib.hid hK
          clear hK hall ho
          go_simp
          (go_at_call 74; (with_reducible refine (HOW.out _ h.fb).mono ?_); rintro e W' ⟨rv, rfl, hu, hb⟩)
          try go_simp
          refine HK.out _ _ ⟨g, lo4, hi4, W.heap.size, W'.heap.size, _, _, _, _, _, _, _, _, _, _, rfl, by simp [hsz], ?_⟩
          rw [hup]
          exact ⟨below_tr h.fb hb, h.f0, h.f1, h.f2, h.f3, fun hh => ⟨(h.f4 hh).1, (h.f4 hh).2.1, Nat.le_trans (h.f4 hh).2.2.1 hb.size, ((h.f4 hh).2.2.2).keep hb⟩, h.f5, h.f6, fun _ => ⟨h.fb.size, hb.size, Nat.le_refl _, ⟨app.ints_of_owns hu, fun _ => hu⟩⟩, fun hh => absurd hh hnb, fun hh => by have h1 := h.f9 hh; have h2 := h1.2.2.2.below hb; have e : inv.upd (fun k => l.getD k false) 7 10 = l.getD 10 false := rfl; rw [if_neg hns] at h2; rw [e, if_neg hns]; exact ⟨h1.1, Nat.lt_of_lt_of_le h1.2.1 hb.size, h1.2.2.1, h2⟩, fun hh => absurd hh hns, fun ha _ => .inl (h.f4 ha).2.2.1, h.a4x9, fun _ ha => .inl (h.f9 ha).2.1⟩
        · obtain ⟨hun, o, ho, hall⟩ := mem_ready.1 hi
          obtain rfl : _ = o := Option.some.inj ho
          have hoff : l.getD 8 false = false := inv.off l 8 hun
          have hup := inv.upd_eq l 8 hun
          have d1 : l.getD 1 false = true := hall ⟨1, .data⟩ (by simp) (by decide)
          have d4 : l.getD 4 false = true := hall ⟨4, .data⟩ (by simp) (by decide)
          have d7 : l.getD 7 false = true := hall ⟨7, .data⟩ (by simp) (by decide)
          obtain rfl := h.f1 d1
          have e4 := h.f4 d4
          obtain ⟨y4a, y4n, y4c, rfl⟩ := (e4.2.2.2).rows.shape
          have e7 := h.f7 d7
          obtain ⟨y7a, y7c, rfl⟩ := ishape (e7.2.2.2).1
          refine wpOp_step rfl (fun K' hK => ?_)
          have HK := Lib.hid hK
          clear hK hall ho
          go_simp
          refine HK.out _ _ ⟨g, lo4, hi4, lo7, hi7, _, _, _, _, _, _, _, _, _, _, rfl, by simp [hsz], ?_⟩
          rw [hup]
          exact ⟨h.fb, h.f0, h.f1, h.f2, h.f3, h.f4, h.f5, h.f6, h.f7, fun _ => ⟨d1, d4, d7, rfl⟩, h.f9, fun hh => ⟨(h.f10 hh).1, rfl⟩, h.a4x7, h.a4x9, h.a7x9⟩
        · obtain ⟨hun, o, ho, hall⟩ := mem_ready.1 hi
          obtain rfl : _ = o := Option.some.inj ho
          have hoff : l.getD 9 false = false := inv.off l 9 hun
          have hup := inv.upd_eq l 9 hun
          have hns : ¬ l.getD 10 false = true := fun e => by have := (h.f10 e).1; simp only [hoff] at this; cases this
          have hb := below_al (Below.refl W.heap.size W) (.cells #[.int .i64 0, .slice none 0 0, .slice none 0 0] 28)
          have hnew := Blk.new W 28 #[.int .i64 0, .slice none 0 0, .slice none 0 0]
          refine wpOp_step rfl (fun K' hK => ?_)
          have HK := Lib.hid hK
          clear hK hall ho
          go_simp
          refine HK.out _ _ ⟨W.heap.size, lo4, hi4, lo7, hi7, _, _, _, _, _, _, _, _, _, _, rfl, by simp [hsz], ?_⟩
          rw [hup]
          exact ⟨below_tr h.fb hb, h.f0, h.f1, h.f2, h.f3, fun hh => ⟨(h.f4 hh).1, (h.f4 hh).2.1, Nat.le_trans (h.f4 hh).2.2.1 hb.size, ((h.f4 hh).2.2.2).keep hb⟩, h.f5, h.f6, fun hh => ⟨(h.f7 hh).1, (h.f7 hh).2.1, Nat.le_trans (h.f7 hh).2.2.1 hb.size, ⟨((h.f7 hh).2.2.2).1.keep hb, fun z => app.owns_below (((h.f7 hh).2.2.2).2 z) hb⟩⟩, h.f8, fun _ => ⟨h.fb.size, by simp, rfl, by have e : inv.upd (fun k => l.getD k false) 9 10 = l.getD 10 false := rfl; rw [e, if_neg hns]; exact hnew⟩, fun hh => absurd hh hns, h.a4x7, fun ha _ => .inr (h.f4 ha).2.2.1, fun ha _ => .inr (h.f7 ha).2.2.1⟩
        · obtain ⟨hun, o, ho, hall⟩ := mem_ready.1 hi
          obtain rfl : _ = o := Option.some.inj ho
          have hoff : l.getD 10 false = false := inv.off l 10 hun
          have hup := inv.upd_eq l 10 hun
          have d8 : l.getD 8 false = true := hall ⟨8, .data⟩ (by simp) (by decide)
          have d9 : l.getD 9 false = true := hall ⟨9, .data⟩ (by simp) (by decide)
          obtain ⟨q1, q4, q7, rfl⟩ := h.f8 d8
          obtain ⟨hg1, hg2, rfl, hk⟩ := h.f9 d9
          rw [hoff] at hk
          have hk : Blk W g 28 #[.int .i64 0, .slice none 0 0, .slice none 0 0] := hk
          obtain rfl := h.f1 q1
          have e4 := h.f4 q4
          obtain ⟨y4a, y4n, y4c, rfl⟩ := (e4.2.2.2).rows.shape
          have e7 := h.f7 q7
          obtain ⟨y7a, y7c, rfl⟩ := ishape (e7.2.2.2).1
          obtain ⟨c0, c1, c2, c3⟩ := scene.three_cells hk
          have rf : ∀ k, W.frozen? ⟨g, k, none⟩ = false := fun k => Joins.unfrozen_of_block hk k
          have hw := set3_wrote W g (.int .i64 x) (.slice y4a y4n y4c) (.slice y7a ws.length y7c)
          refine wpOp_step rfl (fun K' hK => ?_)
          have HK := Lib.hid hK
          clear hK hall ho
          go_simp
          refine HK.out _ (set3 W g (.int .i64 x) (.slice y4a y4n y4c) (.slice y7a ws.length y7c)) ⟨g, lo4, hi4, lo7, hi7, _, _, _, _, _, _, _, _, _, _, rfl, by simp [hsz], ?_⟩
          rw [hup]
          exact ⟨set3_below (.int .i64 x) (.slice y4a y4n y4c) (.slice y7a ws.length y7c) hg1 h.fb, h.f0, h.f1, h.f2, h.f3, fun _ => ⟨e4.1, e4.2.1, by rw [hw.size]; exact e4.2.2.1, (e4.2.2.2).wrote hw (fun p (hp : p.block = g) => by have := (h.a4x9 q4 d9); omega)⟩, h.f5, h.f6, fun _ => ⟨e7.1, e7.2.1, by rw [hw.size]; exact e7.2.2.1, ⟨(e7.2.2.2).1.wrote hw (fun p (hp : p.block = g) => by have := (h.a7x9 q7 d9); omega), fun z => owns_apart ((e7.2.2.2).2 z) (e7.2.2.2).1 hw (h.a7x9 q7 d9) z⟩⟩, fun _ => ⟨q1, q4, q7, rfl⟩, fun _ => ⟨hg1, by rw [hw.size]; exact hg2, rfl, set3_same (.int .i64 x) (.slice y4a y4n y4c) (.slice y7a ws.length y7c) hk⟩, fun _ => ⟨d9, d8⟩, h.a4x7, h.a4x9, h.a7x9⟩
      · rintro l a' W ⟨g, lo4, hi4, lo7, hi7, s20, s21, s22, s23, s24, s25, s26, s27, s28, s6, rfl, hsz, h⟩ hr
        have hup : ∀ i, i < 11 → l.getD i false = true := inv.all_up (by kernel_rfl) hsz hr
        obtain rfl := h.f0 (hup 0 (by omega))
        obtain rfl := h.f1 (hup 1 (by omega))
        obtain rfl := h.f2 (hup 2 (by omega))
        obtain rfl := h.f3 (hup 3 (by omega))
        obtain rfl := h.f5 (hup 5 (by omega))
        obtain rfl := h.f6 (hup 6 (by omega))
        obtain ⟨_, _, _, rfl⟩ := h.f8 (hup 8 (by omega))
        obtain ⟨hg1, hg2, rfl, hk⟩ := h.f9 (hup 9 (by omega))
        rw [if_pos (hup 10 (by omega))] at hk
        have e4 := h.f4 (hup 4 (by omega))
        have x4 := h.a4x9 (hup 4 (by omega)) (hup 9 (by omega))
        obtain ⟨y4a, y4n, y4c, rfl⟩ := (e4.2.2.2).rows.shape
        have e7 := h.f7 (hup 7 (by omega))
        have x7 := h.a7x9 (hup 7 (by omega)) (hup 9 (by omega))
        obtain ⟨y7a, y7c, rfl⟩ := ishape (e7.2.2.2).1
        have x4x7 := h.a4x7 (hup 4 (by omega)) (hup 7 (by omega))
        have hfb := h.fb
        clear h hup hr hsz
        obtain ⟨e4a, e4b, e4c, e4d⟩ := e4
        obtain ⟨e7a, e7b, e7c, e7d, e7e⟩ := e7
        have BW := Lib.hid (below_tr B1.out hfb)
        have KP := Lib.hid (K1.out.below hfb)
        have KR := Lib.hid (R1.out.below hfb)
        have KG := Lib.hid hk
        have ROW := Lib.hid e4d
        have INT : Hid (OwnInts W lo7 hi7 (.slice y7a ws.length y7c) (flk xss ws t 0) ∧ (0 < ws.length → ∃ gs, y7a = some ⟨gs, 0, none⟩ ∧ lo7 ≤ gs ∧ gs < hi7 ∧ W.ownsRow lo7 3 1 (.slice y7a ws.length y7c) ws.length (i64s (flk xss ws t 0)))) := Lib.hid (by
          rw [flk_zero]
          refine ⟨e7d, fun z => ?_⟩
          have ho := e7e z
          rcases ho.2 with ⟨_, h2⟩ | ⟨gs, cp, cur, hv, _⟩
          · omega
          · injection hv with v1 v2 v3
            have hl := (ho.lt gs (by rw [v1]; rfl)).1
            have hh := e7d.lt ⟨gs, 0, none⟩ ⟨gs, 0, ws.length, y7c, by rw [v1], rfl, rfl, by simp, by simp; omega⟩
            exact ⟨gs, v1, hl, hh, ho⟩)
        have AP : Hid (w.heap.size + 1 < lo4 ∧ w.heap.size + 1 < lo7 ∧ w.heap.size + 1 < g ∧ (g < lo4 ∨ hi4 ≤ g) ∧ (g < lo7 ∨ hi7 ≤ g) ∧ (hi4 ≤ lo7 ∨ hi7 ≤ lo4)) := Lib.hid ⟨by omega, by omega, by omega, x4, x7, x4x7⟩
        obtain ⟨AA, b, o, cp0, R, hv, _, _, hA, hc⟩ := H.out.rows.form
        injection hv with v1 v2 v3
        subst v1
        subst v3
        clear hfb hk e4a e4b e4c e4d e7a e7b e7c e7d e7e x4 x7 x4x7 B1 K1 R1 HLI HOW hr1 hg1 hg2 HI
        obtain ⟨c0, c1, c2, c3⟩ := scene.three_cells KP.out
        obtain ⟨z0, z1, z2, z3⟩ := scene.three_cells KG.out
        go_wp2_with fail
        go_loopw [7] (fun i wr => ∃ k : Nat, k ≤ xss.length ∧ i = .int .i64 k ∧ Hid (Below w.heap.size w wr) ∧ Hid (Blk wr w.heap.size 28 #[.int .i64 x, .slice A xss.length cap, .slice C ws.length cap']) ∧ Hid (Blk wr (w.heap.size + 1) 28 #[.int .i64 0, .slice none 0 0, .slice none 0 0]) ∧ Hid (Blk wr g 28 #[.int .i64 x, .slice y4a y4n y4c, .slice y7a ws.length y7c]) ∧ Hid (OwnRows wr lo4 hi4 (.slice y4a y4n y4c) xss) ∧ Hid (OwnInts wr lo7 hi7 (.slice y7a ws.length y7c) (flk xss ws t k) ∧ (0 < ws.length → ∃ gs, y7a = some ⟨gs, 0, none⟩ ∧ lo7 ≤ gs ∧ gs < hi7 ∧ wr.ownsRow lo7 3 1 (.slice y7a ws.length y7c) ws.length (i64s (flk xss ws t k))))) (fun i _ => xss.length - (intOf i).toNat)
        case atStart => exact ⟨0, Nat.zero_le _, rfl, BW, KP, KR, KG, ROW, INT⟩
        case round =>
          clear BW KP KR KG ROW INT c0 c1 c2 c3 z0 z1 z2 z3
          obtain ⟨k, hk, rfl, hB, hP, hR, hG, hROW, hINT⟩ := hrel
          obtain ⟨wi, rfl⟩ : ∃ wi : World, wi = wr := ⟨_, rfl⟩
          obtain ⟨c0, c1, c2, c3⟩ := scene.three_cells hP.out
          obtain ⟨z0, z1, z2, z3⟩ := scene.three_cells hG.out
          by_cases hlt : k < xss.length
          · have hkz : (k : Int) < (xss.length : Int) := by omega
            obtain rfl := hA (by omega)
            have hltw : k < ws.length := by have := HLW.out; omega
            have hkw : (k : Int) < (ws.length : Int) := by omega
            obtain ⟨gs, rfl, hgs1, hgs2, hown⟩ := hINT.out.2 (by omega)
            obtain ⟨ap1, ap2, ap3, ap4, ap5, ap6⟩ := AP.out
            obtain ⟨g0, gi⟩ := hc k hlt
            have g0 := below_cell hB.out _ _ g0
            have hgd : xss.getD k [] = xss[k] := by simp [List.getD, hlt]
            have HC := Lib.hid hc
            have GI := Lib.hid (gi.below hB.out)
            clear hc hA gi
            by_cases hin : t ∈ xss[k]
            · have HCT := Lib.hid (ord.has_yes (R k) xss[k] t wi GI.out hin)
              have HF := flk_yes xss ws hltw (hgd ▸ hin)
              have hfa := flk_at xss ws t hltw
              have Q2 := ownsRow_set hown hltw (.int .i64 (1 - ws[k]))
              rw [HF] at Q2
              have hgl := (hown.lt gs rfl).2
              have g2 : wi.cell? ⟨gs, k, none⟩ = some (.int .i64 ws[k]) := by
                obtain ⟨A3, b3, o3, cap3, hv3, _, _, hA3, hc3⟩ := hINT.out.1.ints.form
                have h3 := hc3 k (by rw [len_flk]; exact hltw)
                rw [hfa] at h3
                injection hv3 with e1 e2 e3
                rw [← e1] at hA3
                have h4 := hA3 (by rw [len_flk]; omega)
                injection h4 with h4
                injection h4 with h5 h6
                rw [← h5, ← h6, Nat.zero_add] at h3
                exact h3
              have rf : ∀ q, wi.frozen? ⟨gs, q, none⟩ = false := fun q => by
                obtain ⟨cc, hcc⟩ := make.own_type hown (b := gs) rfl
                exact Joins.unfrozen_of_block hcc q
              have hw := Wrote.drew (Wrote.setCell (S := fun p => p.block = gs) (p := (⟨gs, k, none⟩ : Addr)) (Wrote.refl _ wi) rfl (.int .i64 (1 - ws[k])))
              have O3 : Hid (OwnInts (wi.setCell ⟨gs, k, none⟩ (.int .i64 (1 - ws[k]))).drew lo7 hi7 (.slice (some ⟨gs, 0, none⟩) ws.length y7c) (flk xss ws t (k + 1)) ∧ (0 < ws.length → ∃ g', (some ⟨gs, 0, none⟩ : Option Addr) = some ⟨g', 0, none⟩ ∧ lo7 ≤ g' ∧ g' < hi7 ∧ (wi.setCell ⟨gs, k, none⟩ (.int .i64 (1 - ws[k]))).drew.ownsRow lo7 3 1 (.slice (some ⟨gs, 0, none⟩) ws.length y7c) ws.length (i64s (flk xss ws t (k + 1))))) := Lib.hid ⟨⟨(app.ints_of_owns Q2).ints, hINT.out.1.ge, hINT.out.1.lt, (app.ints_of_owns Q2).free⟩, fun _ => ⟨gs, rfl, hgs1, hgs2, Q2⟩⟩
              have B3 : Hid (Below w.heap.size w (wi.setCell ⟨gs, k, none⟩ (.int .i64 (1 - ws[k]))).drew) := Lib.hid (below_dr (hB.out.setCell (by show w.heap.size ≤ gs; omega) _))
              have P3 := Lib.hid (hP.out.wrote hw (fun p hp e => by have h1 : p.block = gs := hp; omega))
              have R3 := Lib.hid (hR.out.wrote hw (fun p hp e => by have h1 : p.block = gs := hp; omega))
              have G3 := Lib.hid (hG.out.wrote hw (fun p hp e => by have h1 : p.block = gs := hp; omega))
              have W3 := Lib.hid (hROW.out.wrote hw (fun p hp => by have h1 : p.block = gs := hp; omega))
              have h01 := HW01.out k hltw
              clear hin HF hfa Q2 hown hw ap1 ap2 ap3 ap4 ap5 ap6
              generalize ws[k] = z at *
              go_wp2_with fail
              refine HCT.out.mono ?_
              rintro e w' ⟨rfl, rfl⟩
              go_wp2_with fail
              go_region
              go_wp2_with fail
              go_roundw
              case rel => exact ⟨k + 1, by omega, by go_num, B3, P3, R3, G3, W3, O3⟩
              case measure => simp [intOf]; omega
            · have HCT := Lib.hid (ord.has_no (R k) xss[k] t wi GI.out hin)
              have HF := flk_no xss ws (e := t) (k := k) (by rw [hgd]; exact hin)
              have O3 := hINT
              rw [← HF] at O3
              clear hin HF hown ap1 ap2 ap3 ap4 ap5 ap6
              go_wp2_with fail
              refine HCT.out.mono ?_
              rintro e w' ⟨rfl, rfl⟩
              go_wp2_with fail
              go_roundw
              case rel => exact ⟨k + 1, by omega, by go_num, hB, hP, hR, hG, hROW, O3⟩
              case measure => simp [intOf]; omega
          · have hkz : ¬ (k : Int) < (xss.length : Int) := by omega
            obtain rfl : k = xss.length := by omega
            obtain ⟨ap1, ap2, ap3, ap4, ap5, ap6⟩ := AP.out
            obtain ⟨r0, r1, r2, r3⟩ := scene.three_cells hR.out
            have rf : ∀ k, wi.frozen? ⟨w.heap.size + 1, k, none⟩ = false := fun k => Joins.unfrozen_of_block hR.out k
            have WR := set3_wrote wi (w.heap.size + 1) (.int .i64 x) (.slice y4a y4n y4c) (.slice y7a ws.length y7c)
            have B4 := Lib.hid (set3_below (.int .i64 x) (.slice y4a y4n y4c) (.slice y7a ws.length y7c) (by omega : w.heap.size ≤ w.heap.size + 1) hB.out)
            have O4 := Lib.hid (hINT.out.1.wrote WR (fun p (hp : p.block = w.heap.size + 1) => by omega)).ints
            have U4 := Lib.hid (hROW.out.wrote WR (fun p (hp : p.block = w.heap.size + 1) => by omega)).rows
            have K4 := set3_same (.int .i64 x) (.slice y4a y4n y4c) (.slice y7a ws.length y7c) hR.out
            obtain ⟨y0, y1, y2, y3⟩ := scene.three_cells K4
            have WX : set3 wi (w.heap.size + 1) (.int .i64 x) (.slice y4a y4n y4c) (.slice y7a ws.length y7c) = ((wi.setCell ⟨w.heap.size + 1, 0, none⟩ (.int .i64 x)).setCell ⟨w.heap.size + 1, 1, none⟩ (.slice y4a y4n y4c)).setCell ⟨w.heap.size + 1, 2, none⟩ (.slice y7a ws.length y7c) := rfl
            rw [WX] at y0 y1 y2 B4 O4 U4
            clear hc hA WR K4 WX
            go_wp2_with fail
            exact bodyPost_ret (v := .tuple #[.agg #[.int .i64 x, .slice y4a y4n y4c, .slice y7a ws.length y7c], .bool true]) (by simp [results, Try.results40, go_sem, y0, y1, y2]) rfl ⟨_, _, rfl, ⟨O4.out, U4.out⟩, B4.out⟩
    · rw [flipR_no (fun h => tt ⟨h.2.1, by omega⟩)]
      unfold none_
      have hbad : t < 0 ∨ x - 1 < t := by omega
      have x3 : IntKind.i64.wrap (x - 1) = x - 1 := IntWalk.i64_in _ (by omega)
      clear hok tt
      obtain ⟨c0, c1, c2, c3⟩ := scene.three_cells K0.out
      go_enter Try.func40, Try.ntmps40
      go_wp2_with fail
      refine HI.out.mono ?_
      rintro e w1 ⟨rfl, hb1⟩
      have B1 := Lib.hid (below_tr B0.out hb1)
      have K1 := Lib.hid (K0.out.below hb1)
      have R1 := Lib.hid (R0.out.below hb1)
      have hr1 := R1.out.lt
      clear c0 c1 c2 c3 hb1 B0 K0 R0
      obtain ⟨c0, c1, c2, c3⟩ := scene.three_cells K1.out
      obtain ⟨r0, r1, r2, r3⟩ := scene.three_cells R1.out
      have rf : ∀ k, w1.frozen? ⟨w.heap.size + 1, k, none⟩ = false := fun k => Joins.unfrozen_of_block R1.out k
      go_wp2_with fail
      refine (val.in_no _ _ _ _ hbad).mono ?_
      rintro e w' ⟨rfl, rfl⟩
      clear hbad
      go_wp2_with fail
      refine bodyPost_ret (v := .tuple #[.agg #[.int .i64 0, .slice none 0 0, .slice none 0 0], .bool false]) (by simp [results, Try.results40, go_sem, r0, r1, r2]) rfl ⟨_, _, rfl, ⟨Ints.nil _, IRows.nil _⟩, ?_⟩
      repeat (first | (with_reducible exact B1.out) | (with_reducible refine Below.setCell ?_ (by simp) _))
  · have HI := HI
    rw [sceneB_no hok] at HI
    rw [flipR_no (fun h => hok h.1)]
    unfold none_
    clear hok
    obtain ⟨c0, c1, c2, c3⟩ := scene.three_cells K0.out
    go_enter Try.func40, Try.ntmps40
    go_wp2_with fail
    refine HI.out.mono ?_
    rintro e w1 ⟨rfl, hb1⟩
    have B1 := Lib.hid (below_tr B0.out hb1)
    have K1 := Lib.hid (K0.out.below hb1)
    have R1 := Lib.hid (R0.out.below hb1)
    have hr1 := R1.out.lt
    clear c0 c1 c2 c3 hb1 B0 K0 R0
    obtain ⟨c0, c1, c2, c3⟩ := scene.three_cells K1.out
    obtain ⟨r0, r1, r2, r3⟩ := scene.three_cells R1.out
    have rf : ∀ k, w1.frozen? ⟨w.heap.size + 1, k, none⟩ = false := fun k => Joins.unfrozen_of_block R1.out k
    go_wp2_with fail
    refine bodyPost_ret (v := .tuple #[.agg #[.int .i64 0, .slice none 0 0, .slice none 0 0], .bool false]) (by simp [results, Try.results40, go_sem, r0, r1, r2]) rfl ⟨_, _, rfl, ⟨Ints.nil _, IRows.nil _⟩, ?_⟩
    repeat (first | (with_reducible exact B1.out) | (with_reducible refine Below.setCell ?_ (by simp) _))


end Go.Proofs.Ytkikdecepdbbnaa.flm
