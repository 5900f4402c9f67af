/- MixBoxes: the closure of the program. -/
import Derived.Test.YtiigfhigmdjooaaMixt
import Derived.Test.YtiigfhigmdjooaaInv
import Derived.BigRegion
namespace Go.Proofs.Ytiigfhigmdjooaa.mix
open Go.RowKit Go.Deep Go.Proofs.Ytiigfhigmdjooaa.base
open Go.Proofs.Ytiigfhigmdjooaa.ints (ret_int infoInt infoInts)
open Go.Proofs.Ytiigfhigmdjooaa.rws (total)
open Go.Proofs.Ytiigfhigmdjooaa.val (okSizes okBox)
open Go.Proofs.Ytiigfhigmdjooaa.row (nn nn_bd at_ at_lt)
open Go.Proofs.Ytiigfhigmdjooaa.inv (upd)

theorem at_nat (a Y c : Nat) : at_ (Y : Int) (a : Int) (c : Int) = a * Y + c := by
  unfold at_
  rw [← Int.natCast_mul, ← Int.natCast_add, Int.toNat_natCast]
def st (n0 n1 n2 n3 m0 m1 m2 m3 : Int) (j : Nat) : Array Value := #[.int .i64 (if 0 < j then n0 + m0 else n0), .int .i64 (if 1 < j then n1 + m1 else n1), .int .i64 (if 2 < j then n2 + m2 else n2), .int .i64 (if 3 < j then n3 + m3 else n3)]
def zer : Array Value := #[.int .i64 0, .int .i64 0, .int .i64 0, .int .i64 0]
/-- what holds while the region's operations come up, in whatever order -/
structure JJ (w : World) (vA vN vB vM va vc : Value) (nv mv : Array Value) (L : Nat → Bool) (s7 s8 s10 s11 s12 s13 s14 s15 s16 s17 : Value) (W : World) : Prop where
  f0 : L 0 = true → s10 = vA
  f1 : L 1 = true → s11 = va
  f2 : L 2 = true → s12 = vc
  f3 : L 3 = true → s13 = vN
  f4 : L 4 = true → s14 = vB
  f5 : L 5 = true → s15 = va
  f6 : L 6 = true → s16 = vc
  f7 : L 7 = true → s17 = vM
  f8 : L 8 = true → ∃ g : Nat, s7 = .pointer (some ⟨g, 0, none⟩) ∧ w.heap.size < g ∧ Blk W g 152 (if L 10 = true then nv else zer)
  f9 : L 9 = true → ∃ g : Nat, s8 = .pointer (some ⟨g, 0, none⟩) ∧ w.heap.size < g ∧ Blk W g 152 (if L 11 = true then mv else zer)
  fd : L 8 = true → L 9 = true → s7 ≠ s8
  fb : Below w.heap.size w W
  fz : w.heap.size < W.heap.size
  fr : Blk W w.heap.size 152 zer
  fl : L 10 = true → L 8 = true
  fm : L 11 = true → L 9 = true
/-- a step that leaves what is there -/
theorem keep8 {w W W' : World} {s : Value} {cs : Array Value} (hb : Below W.heap.size W W') (h : ∃ g : Nat, s = .pointer (some ⟨g, 0, none⟩) ∧ w.heap.size < g ∧ Blk W g 152 cs) : ∃ g : Nat, s = .pointer (some ⟨g, 0, none⟩) ∧ w.heap.size < g ∧ Blk W' g 152 cs := by
  obtain ⟨g, e, hg, hk⟩ := h
  exact ⟨g, e, hg, hk.below hb⟩
def set4 (W : World) (g : Nat) (u0 u1 u2 u3 : Value) : World := (((W.setCell ⟨g, 0, none⟩ u0).setCell ⟨g, 1, none⟩ u1).setCell ⟨g, 2, none⟩ u2).setCell ⟨g, 3, none⟩ u3
theorem set4_same {W : World} {g : Nat} {t : TypeId} {z0 z1 z2 z3 : Value} (u0 u1 u2 u3 : Value) (h : Blk W g t #[z0, z1, z2, z3]) : Blk (set4 W g u0 u1 u2 u3) g t #[u0, u1, u2, u3] := by
  have h1 := Joins.block_setCell (i := 0) h u0
  have h2 := Joins.block_setCell (i := 1) h1 u1
  have h3 := Joins.block_setCell (i := 2) h2 u2
  have h4 := Joins.block_setCell (i := 3) h3 u3
  unfold Blk set4
  simpa using h4
theorem set4_wrote (W : World) (g : Nat) (u0 u1 u2 u3 : Value) : Wrote (fun p => p.block = g) W (set4 W g u0 u1 u2 u3) := by
  unfold set4
  exact Wrote.setCell (S := fun p => p.block = g) (Wrote.setCell (S := fun p => p.block = g) (Wrote.setCell (S := fun p => p.block = g) (Wrote.setCell (S := fun p => p.block = g) (Wrote.refl _ _) rfl _) rfl _) rfl _) rfl _
theorem set4_size (W : World) (g : Nat) (u0 u1 u2 u3 : Value) : (set4 W g u0 u1 u2 u3).heap.size = W.heap.size := by simp [set4, World.setCell]
theorem set4_below {w W : World} {g : Nat} (u0 u1 u2 u3 : Value) (h : Below w.heap.size w W) (hg : w.heap.size ≤ g) : Below w.heap.size w (set4 W g u0 u1 u2 u3) := by
  unfold set4
  repeat (first | exact h | refine Below.setCell ?_ hg _)
theorem set4_other {W : World} {g g' : Nat} {t : TypeId} {cs : Array Value} (u0 u1 u2 u3 : Value) (h : Blk W g' t cs) (hne : g' ≠ g) : Blk (set4 W g u0 u1 u2 u3) g' t cs :=
  h.wrote (set4_wrote W g u0 u1 u2 u3) (fun p hp e => hne (by rw [← e]; exact hp))

set_option maxHeartbeats 8000000 in
theorem clo (p0 p1 : Nat) (X Y : Nat) (wh wh' : Int) (v u : Value) (xss yss : List (List Int)) (a c : Nat) (w : World) (h0 : Blk w p0 28 #[.int .i64 (X : Int), .int .i64 (Y : Int), .int .i64 wh, v]) (h1 : Blk w p1 28 #[.int .i64 (X : Int), .int .i64 (Y : Int), .int .i64 wh', u])
    (hv : IRows w v xss) (hu : IRows w u yss) (hok : okBox X Y wh xss) (hok' : okBox X Y wh' yss) (ha : a < X) (hc : c < Y) :
    Calls Try.prog 147 #[.int .i64 (a : Int), .int .i64 (c : Int), .pointer (some ⟨p0, 0, none⟩), .pointer (some ⟨p1, 0, none⟩)] w fun e w' =>
      e = .returned (.agg #[.int .i64 (N xss yss (a * Y + c) 0), .int .i64 (N xss yss (a * Y + c) 1), .int .i64 (N xss yss (a * Y + c) 2), .int .i64 (N xss yss (a * Y + c) 3)]) ∧ Below w.heap.size w w' := by
  unfold N
  have HRW := (fun (W : World) (hb : Below w.heap.size w W) => row.rowof X Y wh a c v xss W (hv.below hb) hok (by omega) (by omega) (by omega) (by omega))
  have HRV := (fun (W : World) (hb : Below w.heap.size w W) => row.rowof X Y wh' a c u yss W (hu.below hb) hok' (by omega) (by omega) (by omega) (by omega))
  have hr := at_lt (i := a) (j := c) hok (by omega) (by omega) (by omega) (by omega)
  have hr' := at_lt (i := a) (j := c) hok' (by omega) (by omega) (by omega) (by omega)
  have b0 := nn_bd hok hr (k := 0) (by omega)
  have b1 := nn_bd hok hr (k := 1) (by omega)
  have b2 := nn_bd hok hr (k := 2) (by omega)
  have b3 := nn_bd hok hr (k := 3) (by omega)
  have d0 := nn_bd hok' hr' (k := 0) (by omega)
  have d1 := nn_bd hok' hr' (k := 1) (by omega)
  have d2 := nn_bd hok' hr' (k := 2) (by omega)
  have d3 := nn_bd hok' hr' (k := 3) (by omega)
  rw [at_nat] at *
  obtain ⟨va, vl, vc, rfl⟩ := hv.shape
  obtain ⟨ua, ul, uc, rfl⟩ := hu.shape
  generalize nn xss (a * Y + c) 0 = n0 at *
  generalize nn xss (a * Y + c) 1 = n1 at *
  generalize nn xss (a * Y + c) 2 = n2 at *
  generalize nn xss (a * Y + c) 3 = n3 at *
  generalize nn yss (a * Y + c) 0 = m0 at *
  generalize nn yss (a * Y + c) 1 = m1 at *
  generalize nn yss (a * Y + c) 2 = m2 at *
  generalize nn yss (a * Y + c) 3 = m3 at *
  have kw0 : IntKind.i64.wrap (n0 + m0) = n0 + m0 := IntWalk.i64_in _ (by omega)
  have kw1 : IntKind.i64.wrap (n1 + m1) = n1 + m1 := IntWalk.i64_in _ (by omega)
  have kw2 : IntKind.i64.wrap (n2 + m2) = n2 + m2 := IntWalk.i64_in _ (by omega)
  have kw3 : IntKind.i64.wrap (n3 + m3) = n3 + m3 := IntWalk.i64_in _ (by omega)
  have H1 := Lib.hid HRW
  have H2 := Lib.hid HRV
  clear HRW HRV hr hr' hok hok' hv hu b0 b1 b2 b3 d0 d1 d2 d3
  go_enter Try.func147, Try.ntmps147
  go_wp2_with fail
  refine inv.start (by kernel_rfl) (fun l a' W => ∃ s7 s8 s10 s11 s12 s13 s14 s15 s16 s17 : Value, a' = { tmps := #[.int .i64 (a : Int), .int .i64 (c : Int), .pointer (some ⟨p0, 0, none⟩), .pointer (some ⟨p1, 0, none⟩), undef, undef, .pointer (some ⟨w.heap.size, 0, none⟩), s7, s8, undef, s10, s11, s12, s13, s14, s15, s16, s17, undef, undef, undef, undef, undef, undef, undef, undef, undef, undef, undef, undef, undef], defers := [] } ∧ l.size = 12 ∧ JJ w (.agg #[.int .i64 (X : Int), .int .i64 (Y : Int), .int .i64 wh, .slice va vl vc]) (.agg #[.int .i64 n0, .int .i64 n1, .int .i64 n2, .int .i64 n3]) (.agg #[.int .i64 (X : Int), .int .i64 (Y : Int), .int .i64 wh', .slice ua ul uc]) (.agg #[.int .i64 m0, .int .i64 m1, .int .i64 m2, .int .i64 m3]) (.int .i64 (a : Int)) (.int .i64 (c : Int)) #[.int .i64 n0, .int .i64 n1, .int .i64 n2, .int .i64 n3] #[.int .i64 m0, .int .i64 m1, .int .i64 m2, .int .i64 m3] (fun k => l.getD k false) s7 s8 s10 s11 s12 s13 s14 s15 s16 s17 W) ?_ ?_ ?_
  · refine ⟨_, _, _, _, _, _, _, _, _, _, rfl, by simp, ?_⟩
    have B0 := below_dr (below_al (Below.refl w.heap.size w) (.cells #[.int .i64 0, .int .i64 0, .int .i64 0, .int .i64 0] 152))
    exact ⟨fun h => by simp at h, fun h => by simp at h, fun h => by simp at h, fun h => by simp at h, fun h => by simp at h, fun h => by simp at h, fun h => by simp at h, fun h => by simp at h, fun h => by simp at h, fun h => by simp at h, fun h => by simp at h, B0, by simp, (Blk.new w 152 #[.int .i64 0, .int .i64 0, .int .i64 0, .int .i64 0]).below (below_dr (Below.refl _ _)), fun h => by simp at h, fun h => by simp at h⟩
  · rintro l a' W i ⟨s7, s8, s10, s11, s12, s13, s14, s15, s16, s17, rfl, hsz, h⟩ hi
    have hlt : i < 12 := (inv.ready_lt hi).1
    obtain rfl | rfl | rfl | rfl | rfl | rfl | rfl | rfl | rfl | rfl | rfl | rfl : i = 0 ∨ i = 1 ∨ i = 2 ∨ i = 3 ∨ i = 4 ∨ i = 5 ∨ i = 6 ∨ i = 7 ∨ i = 8 ∨ i = 9 ∨ i = 10 ∨ i = 11 := by omega
    · obtain ⟨hun, o, ho, hall⟩ := mem_ready.1 hi
      obtain rfl : _ = o := Option.some.inj ho
      have hoff := inv.off l 0 hun
      have hup := inv.upd_eq l 0 hun
      obtain ⟨c0, c1, c2, c3, c4⟩ := four_cells (h0.below h.fb)
      refine wpOp_step rfl (fun K' hK => ?_)
      have HK := Lib.hid hK
      clear hK hall ho
      go_simp
      refine HK.out _ _ ⟨_, _, _, _, _, _, _, _, _, _, rfl, by simp [hsz], ?_⟩
      rw [hup]
      exact ⟨fun _ => rfl, h.f1, h.f2, h.f3, h.f4, h.f5, h.f6, h.f7, h.f8, h.f9, h.fd, h.fb, h.fz, h.fr, h.fl, h.fm⟩
    · obtain ⟨hun, o, ho, hall⟩ := mem_ready.1 hi
      obtain rfl : _ = o := Option.some.inj ho
      have hoff := inv.off l 1 hun
      have hup := inv.upd_eq l 1 hun
      refine wpOp_step rfl (fun K' hK => ?_)
      have HK := Lib.hid hK
      clear hK hall ho
      go_simp
      refine HK.out _ _ ⟨_, _, _, _, _, _, _, _, _, _, rfl, by simp [hsz], ?_⟩
      rw [hup]
      exact ⟨h.f0, fun _ => rfl, h.f2, h.f3, h.f4, h.f5, h.f6, h.f7, h.f8, h.f9, h.fd, h.fb, h.fz, h.fr, h.fl, h.fm⟩
    · obtain ⟨hun, o, ho, hall⟩ := mem_ready.1 hi
      obtain rfl : _ = o := Option.some.inj ho
      have hoff := inv.off l 2 hun
      have hup := inv.upd_eq l 2 hun
      refine wpOp_step rfl (fun K' hK => ?_)
      have HK := Lib.hid hK
      clear hK hall ho
      go_simp
      refine HK.out _ _ ⟨_, _, _, _, _, _, _, _, _, _, rfl, by simp [hsz], ?_⟩
      rw [hup]
      exact ⟨h.f0, h.f1, fun _ => rfl, h.f3, h.f4, h.f5, h.f6, h.f7, h.f8, h.f9, h.fd, h.fb, h.fz, h.fr, h.fl, h.fm⟩
    · obtain ⟨hun, o, ho, hall⟩ := mem_ready.1 hi
      obtain rfl : _ = o := Option.some.inj ho
      have hoff := inv.off l 3 hun
      have hup := inv.upd_eq l 3 hun
      have d0 : l.getD 0 false = true := hall ⟨0, .data⟩ (by simp) (by decide)
      have d1 : l.getD 1 false = true := hall ⟨1, .data⟩ (by simp) (by decide)
      have d2 : l.getD 2 false = true := hall ⟨2, .data⟩ (by simp) (by decide)
      obtain rfl := h.f0 d0
      obtain rfl := h.f1 d1
      obtain rfl := h.f2 d2
      refine wpOp_step rfl (fun K' hK => ?_)
      have HK := Lib.hid hK
      clear hK hall ho
      go_simp
      (go_at_call 148; (with_reducible refine (H1.out _ h.fb).mono ?_); rintro e W' ⟨rfl, hb⟩)
      try go_simp
      refine HK.out _ _ ⟨_, _, _, _, _, _, _, _, _, _, rfl, by simp [hsz], ?_⟩
      rw [hup]
      exact ⟨h.f0, h.f1, h.f2, fun _ => rfl, h.f4, h.f5, h.f6, h.f7, fun hh => keep8 hb (h.f8 hh), fun hh => keep8 hb (h.f9 hh), h.fd, below_tr h.fb hb, Nat.lt_of_lt_of_le h.fz hb.size, h.fr.below hb, h.fl, h.fm⟩
    · obtain ⟨hun, o, ho, hall⟩ := mem_ready.1 hi
      obtain rfl : _ = o := Option.some.inj ho
      have hoff := inv.off l 4 hun
      have hup := inv.upd_eq l 4 hun
      obtain ⟨c0, c1, c2, c3, c4⟩ := four_cells (h1.below h.fb)
      refine wpOp_step rfl (fun K' hK => ?_)
      have HK := Lib.hid hK
      clear hK hall ho
      go_simp
      refine HK.out _ _ ⟨_, _, _, _, _, _, _, _, _, _, rfl, by simp [hsz], ?_⟩
      rw [hup]
      exact ⟨h.f0, h.f1, h.f2, h.f3, fun _ => rfl, h.f5, h.f6, h.f7, h.f8, h.f9, h.fd, h.fb, h.fz, h.fr, h.fl, h.fm⟩
    · obtain ⟨hun, o, ho, hall⟩ := mem_ready.1 hi
      obtain rfl : _ = o := Option.some.inj ho
      have hoff := inv.off l 5 hun
      have hup := inv.upd_eq l 5 hun
      refine wpOp_step rfl (fun K' hK => ?_)
      have HK := Lib.hid hK
      clear hK hall ho
      go_simp
      refine HK.out _ _ ⟨_, _, _, _, _, _, _, _, _, _, rfl, by simp [hsz], ?_⟩
      rw [hup]
      exact ⟨h.f0, h.f1, h.f2, h.f3, h.f4, fun _ => rfl, h.f6, h.f7, h.f8, h.f9, h.fd, h.fb, h.fz, h.fr, h.fl, h.fm⟩
    · obtain ⟨hun, o, ho, hall⟩ := mem_ready.1 hi
      obtain rfl : _ = o := Option.some.inj ho
      have hoff := inv.off l 6 hun
      have hup := inv.upd_eq l 6 hun
      refine wpOp_step rfl (fun K' hK => ?_)
      have HK := Lib.hid hK
      clear hK hall ho
      go_simp
      refine HK.out _ _ ⟨_, _, _, _, _, _, _, _, _, _, rfl, by simp [hsz], ?_⟩
      rw [hup]
      exact ⟨h.f0, h.f1, h.f2, h.f3, h.f4, h.f5, fun _ => rfl, h.f7, h.f8, h.f9, h.fd, h.fb, h.fz, h.fr, h.fl, h.fm⟩
    · obtain ⟨hun, o, ho, hall⟩ := mem_ready.1 hi
      obtain rfl : _ = o := Option.some.inj ho
      have hoff := inv.off l 7 hun
      have hup := inv.upd_eq l 7 hun
      have d4 : l.getD 4 false = true := hall ⟨4, .data⟩ (by simp) (by decide)
      have d5 : l.getD 5 false = true := hall ⟨5, .data⟩ (by simp) (by decide)
      have d6 : l.getD 6 false = true := hall ⟨6, .data⟩ (by simp) (by decide)
      obtain rfl := h.f4 d4
      obtain rfl := h.f5 d5
      obtain rfl := h.f6 d6
      refine wpOp_step rfl (fun K' hK => ?_)
      have HK := Lib.hid hK
      clear hK hall ho
      go_simp
      (go_at_call 148; (with_reducible refine (H2.out _ h.fb).mono ?_); rintro e W' ⟨rfl, hb⟩)
      try go_simp
      refine HK.out _ _ ⟨_, _, _, _, _, _, _, _, _, _, rfl, by simp [hsz], ?_⟩
      rw [hup]
      exact ⟨h.f0, h.f1, h.f2, h.f3, h.f4, h.f5, h.f6, fun _ => rfl, fun hh => keep8 hb (h.f8 hh), fun hh => keep8 hb (h.f9 hh), h.fd, below_tr h.fb hb, Nat.lt_of_lt_of_le h.fz hb.size, h.fr.below hb, h.fl, h.fm⟩
    · obtain ⟨hun, o, ho, hall⟩ := mem_ready.1 hi
      obtain rfl : _ = o := Option.some.inj ho
      have hoff := inv.off l 8 hun
      have hup := inv.upd_eq l 8 hun
      refine wpOp_step rfl (fun K' hK => ?_)
      have HK := Lib.hid hK
      clear hK hall ho
      go_simp
      have hno : ¬ l.getD 10 false = true := fun e => by have := h.fl e; simp only [hoff] at this; cases this
      have hnew := Blk.new W 152 #[.int .i64 0, .int .i64 0, .int .i64 0, .int .i64 0]
      have hb := below_al (Below.refl W.heap.size W) (.cells #[.int .i64 0, .int .i64 0, .int .i64 0, .int .i64 0] 152)
      refine HK.out _ _ ⟨_, _, _, _, _, _, _, _, _, _, rfl, by simp [hsz], ?_⟩
      rw [hup]
      exact ⟨h.f0, h.f1, h.f2, h.f3, h.f4, h.f5, h.f6, h.f7, fun _ => ⟨W.heap.size, rfl, h.fz, by have e : upd (fun k => l.getD k false) 8 10 = l.getD 10 false := rfl; rw [e, if_neg hno]; exact hnew⟩, fun hh => keep8 hb (h.f9 hh), fun _ h9 => by obtain ⟨g', e', _, hk'⟩ := h.f9 h9; rw [e']; intro e; injection e with e; injection e with e; injection e with e; have := hk'.lt; omega, below_tr h.fb hb, Nat.lt_of_lt_of_le h.fz hb.size, h.fr.below hb, fun _ => rfl, h.fm⟩
    · obtain ⟨hun, o, ho, hall⟩ := mem_ready.1 hi
      obtain rfl : _ = o := Option.some.inj ho
      have hoff := inv.off l 9 hun
      have hup := inv.upd_eq l 9 hun
      refine wpOp_step rfl (fun K' hK => ?_)
      have HK := Lib.hid hK
      clear hK hall ho
      go_simp
      have hno : ¬ l.getD 11 false = true := fun e => by have := h.fm e; simp only [hoff] at this; cases this
      have hnew := Blk.new W 152 #[.int .i64 0, .int .i64 0, .int .i64 0, .int .i64 0]
      have hb := below_al (Below.refl W.heap.size W) (.cells #[.int .i64 0, .int .i64 0, .int .i64 0, .int .i64 0] 152)
      refine HK.out _ _ ⟨_, _, _, _, _, _, _, _, _, _, rfl, by simp [hsz], ?_⟩
      rw [hup]
      exact ⟨h.f0, h.f1, h.f2, h.f3, h.f4, h.f5, h.f6, h.f7, fun hh => keep8 hb (h.f8 hh), fun _ => ⟨W.heap.size, rfl, h.fz, by have e : upd (fun k => l.getD k false) 9 11 = l.getD 11 false := rfl; rw [e, if_neg hno]; exact hnew⟩, fun h8 _ => by obtain ⟨g', e', _, hk'⟩ := h.f8 h8; rw [e']; intro e; injection e with e; injection e with e; injection e with e; have := hk'.lt; omega, below_tr h.fb hb, Nat.lt_of_lt_of_le h.fz hb.size, h.fr.below hb, h.fl, fun _ => rfl⟩
    · obtain ⟨hun, o, ho, hall⟩ := mem_ready.1 hi
      obtain rfl : _ = o := Option.some.inj ho
      have hoff := inv.off l 10 hun
      have hup := inv.upd_eq l 10 hun
      have d8 : l.getD 8 false = true := hall ⟨8, .data⟩ (by simp) (by decide)
      have d3 : l.getD 3 false = true := hall ⟨3, .data⟩ (by simp) (by decide)
      have d9 : l.getD 9 false = true := hall ⟨9, .phase⟩ (by simp) (by decide)
      obtain rfl := h.f3 d3
      obtain ⟨g, rfl, hg, hk⟩ := h.f8 d8
      rw [hoff] at hk
      have hk : Blk W g 152 #[.int .i64 0, .int .i64 0, .int .i64 0, .int .i64 0] := hk
      obtain ⟨c0, c1, c2, c3, c4⟩ := four_cells hk
      have rf : ∀ k, W.frozen? ⟨g, k, none⟩ = false := fun k => Joins.unfrozen_of_block hk k
      refine wpOp_step rfl (fun K' hK => ?_)
      have HK := Lib.hid hK
      clear hK hall ho
      go_simp
      refine HK.out _ (set4 W g (.int .i64 n0) (.int .i64 n1) (.int .i64 n2) (.int .i64 n3)) ⟨_, _, _, _, _, _, _, _, _, _, rfl, by simp [hsz], ?_⟩
      rw [hup]
      exact ⟨h.f0, h.f1, h.f2, h.f3, h.f4, h.f5, h.f6, h.f7, fun _ => ⟨g, rfl, hg, set4_same _ _ _ _ hk⟩, fun h9 => by obtain ⟨g', e', hg', hk'⟩ := h.f9 h9; subst e'; exact ⟨g', rfl, hg', set4_other _ _ _ _ hk' (fun e => h.fd d8 h9 (by rw [e]))⟩, h.fd, set4_below _ _ _ _ h.fb (Nat.le_of_lt hg), by rw [set4_size]; exact h.fz, set4_other _ _ _ _ h.fr (Nat.ne_of_lt hg), fun _ => d8, h.fm⟩
    · obtain ⟨hun, o, ho, hall⟩ := mem_ready.1 hi
      obtain rfl : _ = o := Option.some.inj ho
      have hoff := inv.off l 11 hun
      have hup := inv.upd_eq l 11 hun
      have d9 : l.getD 9 false = true := hall ⟨9, .data⟩ (by simp) (by decide)
      have d7 : l.getD 7 false = true := hall ⟨7, .data⟩ (by simp) (by decide)
      have d8 : l.getD 8 false = true := hall ⟨8, .phase⟩ (by simp) (by decide)
      have d10 : l.getD 10 false = true := hall ⟨10, .chain⟩ (by simp) (by decide)
      obtain rfl := h.f7 d7
      obtain ⟨g, rfl, hg, hk⟩ := h.f9 d9
      rw [hoff] at hk
      have hk : Blk W g 152 #[.int .i64 0, .int .i64 0, .int .i64 0, .int .i64 0] := hk
      obtain ⟨c0, c1, c2, c3, c4⟩ := four_cells hk
      have rf : ∀ k, W.frozen? ⟨g, k, none⟩ = false := fun k => Joins.unfrozen_of_block hk k
      refine wpOp_step rfl (fun K' hK => ?_)
      have HK := Lib.hid hK
      clear hK hall ho
      go_simp
      refine HK.out _ (set4 W g (.int .i64 m0) (.int .i64 m1) (.int .i64 m2) (.int .i64 m3)) ⟨_, _, _, _, _, _, _, _, _, _, rfl, by simp [hsz], ?_⟩
      rw [hup]
      exact ⟨h.f0, h.f1, h.f2, h.f3, h.f4, h.f5, h.f6, h.f7, fun h8 => by obtain ⟨g', e', hg', hk'⟩ := h.f8 h8; subst e'; exact ⟨g', rfl, hg', set4_other _ _ _ _ hk' (fun e => h.fd h8 d9 (by rw [e]))⟩, fun _ => ⟨g, rfl, hg, set4_same _ _ _ _ hk⟩, h.fd, set4_below _ _ _ _ h.fb (Nat.le_of_lt hg), by rw [set4_size]; exact h.fz, set4_other _ _ _ _ h.fr (Nat.ne_of_lt hg), h.fl, fun _ => d9⟩
  · rintro l a' W ⟨s7, s8, s10, s11, s12, s13, s14, s15, s16, s17, rfl, hsz, h⟩ hr
    have hup : ∀ i, i < 12 → l.getD i false = true := inv.all_up (by kernel_rfl) hsz hr
    obtain rfl := h.f0 (hup 0 (by omega))
    obtain rfl := h.f1 (hup 1 (by omega))
    obtain rfl := h.f2 (hup 2 (by omega))
    obtain rfl := h.f3 (hup 3 (by omega))
    obtain rfl := h.f4 (hup 4 (by omega))
    obtain rfl := h.f5 (hup 5 (by omega))
    obtain rfl := h.f6 (hup 6 (by omega))
    obtain rfl := h.f7 (hup 7 (by omega))
    obtain ⟨g7, e7, hg7, hk7⟩ := h.f8 (hup 8 (by omega))
    obtain ⟨g8, e8, hg8, hk8⟩ := h.f9 (hup 9 (by omega))
    have hne := h.fd (hup 8 (by omega)) (hup 9 (by omega))
    subst e7 e8
    rw [if_pos (hup 10 (by omega))] at hk7
    rw [if_pos (hup 11 (by omega))] at hk8
    have hne' : g8 ≠ g7 := fun e => hne (by rw [e])
    have HS0 : Hid (Blk W g7 152 (st n0 n1 n2 n3 m0 m1 m2 m3 0) ∧ Blk W g8 152 #[.int .i64 m0, .int .i64 m1, .int .i64 m2, .int .i64 m3] ∧ Blk W w.heap.size 152 #[.int .i64 0, .int .i64 0, .int .i64 0, .int .i64 0] ∧ Below w.heap.size w W) := Lib.hid ⟨by simpa [st] using hk7, hk8, h.fr, h.fb⟩
    clear h hk7 hk8 hup hne hr hsz h0 h1 H1 H2
    go_wp2_with fail
    go_loopw [9, 18] (fun p9 i wr => ∃ j : Nat, j ≤ 4 ∧ i = .int .i64 j ∧ (∃ z, p9 = z) ∧ Hid (Blk wr g7 152 (st n0 n1 n2 n3 m0 m1 m2 m3 j) ∧ Blk wr g8 152 #[.int .i64 m0, .int .i64 m1, .int .i64 m2, .int .i64 m3] ∧ Blk wr w.heap.size 152 #[.int .i64 0, .int .i64 0, .int .i64 0, .int .i64 0] ∧ Below w.heap.size w wr)) (fun _ i _ => 4 - (intOf i).toNat)
    case atStart => exact ⟨0, Nat.zero_le _, rfl, ⟨_, rfl⟩, HS0⟩
    case round =>
      obtain ⟨j, hj, rfl, ⟨z9, rfl⟩, hS⟩ := hrel
      clear HS0
      obtain rfl | rfl | rfl | rfl | rfl : j = 0 ∨ j = 1 ∨ j = 2 ∨ j = 3 ∨ j = 4 := by omega
      · have hB : Blk wr g7 152 #[.int .i64 n0, .int .i64 n1, .int .i64 n2, .int .i64 n3] := by simpa [st] using hS.out.1
        obtain ⟨c0, c1, c2, c3, c4⟩ := four_cells hB
        obtain ⟨e0, e1, e2, e3, e4⟩ := four_cells hS.out.2.1
        have rf : ∀ k, wr.frozen? ⟨g7, k, none⟩ = false := fun k => Joins.unfrozen_of_block hB k
        go_wp2_with fail
        go_region
        go_wp2_with fail
        go_roundw
        case rel =>
          refine ⟨1, by omega, by go_num, ⟨_, rfl⟩, Lib.hid ⟨?_, ?_, ?_, ?_⟩⟩
          · have hB2 : Blk (wr.setCell ⟨g7, 0, none⟩ (.int .i64 (n0 + m0))) g7 152 (st n0 n1 n2 n3 m0 m1 m2 m3 1) := by
              have := Joins.block_setCell (i := 0) hB (.int .i64 (n0 + m0))
              unfold Blk
              simpa [st] using this
            exact hB2.below (below_dr (Below.refl _ _))
          · exact hS.out.2.1.wrote (Wrote.drew (Wrote.setCell (S := fun p => p.block = g7) (Wrote.refl _ _) rfl _)) (fun p hp => by rw [hp]; exact fun e => hne' e.symm)
          · exact hS.out.2.2.1.wrote (Wrote.drew (Wrote.setCell (S := fun p => p.block = g7) (Wrote.refl _ _) rfl _)) (fun p hp => by rw [hp]; omega)
          · exact below_dr (Below.setCell hS.out.2.2.2 (by show w.heap.size ≤ g7; omega) _)
        case measure => simp [intOf]
      · have hB : Blk wr g7 152 #[.int .i64 (n0 + m0), .int .i64 n1, .int .i64 n2, .int .i64 n3] := by simpa [st] using hS.out.1
        obtain ⟨c0, c1, c2, c3, c4⟩ := four_cells hB
        obtain ⟨e0, e1, e2, e3, e4⟩ := four_cells hS.out.2.1
        have rf : ∀ k, wr.frozen? ⟨g7, k, none⟩ = false := fun k => Joins.unfrozen_of_block hB k
        go_wp2_with fail
        go_region
        go_wp2_with fail
        go_roundw
        case rel =>
          refine ⟨2, by omega, by go_num, ⟨_, rfl⟩, Lib.hid ⟨?_, ?_, ?_, ?_⟩⟩
          · have hB2 : Blk (wr.setCell ⟨g7, 1, none⟩ (.int .i64 (n1 + m1))) g7 152 (st n0 n1 n2 n3 m0 m1 m2 m3 2) := by
              have := Joins.block_setCell (i := 1) hB (.int .i64 (n1 + m1))
              unfold Blk
              simpa [st] using this
            exact hB2.below (below_dr (Below.refl _ _))
          · exact hS.out.2.1.wrote (Wrote.drew (Wrote.setCell (S := fun p => p.block = g7) (Wrote.refl _ _) rfl _)) (fun p hp => by rw [hp]; exact fun e => hne' e.symm)
          · exact hS.out.2.2.1.wrote (Wrote.drew (Wrote.setCell (S := fun p => p.block = g7) (Wrote.refl _ _) rfl _)) (fun p hp => by rw [hp]; omega)
          · exact below_dr (Below.setCell hS.out.2.2.2 (by show w.heap.size ≤ g7; omega) _)
        case measure => simp [intOf]
      · have hB : Blk wr g7 152 #[.int .i64 (n0 + m0), .int .i64 (n1 + m1), .int .i64 n2, .int .i64 n3] := by simpa [st] using hS.out.1
        obtain ⟨c0, c1, c2, c3, c4⟩ := four_cells hB
        obtain ⟨e0, e1, e2, e3, e4⟩ := four_cells hS.out.2.1
        have rf : ∀ k, wr.frozen? ⟨g7, k, none⟩ = false := fun k => Joins.unfrozen_of_block hB k
        go_wp2_with fail
        go_region
        go_wp2_with fail
        go_roundw
        case rel =>
          refine ⟨3, by omega, by go_num, ⟨_, rfl⟩, Lib.hid ⟨?_, ?_, ?_, ?_⟩⟩
          · have hB2 : Blk (wr.setCell ⟨g7, 2, none⟩ (.int .i64 (n2 + m2))) g7 152 (st n0 n1 n2 n3 m0 m1 m2 m3 3) := by
              have := Joins.block_setCell (i := 2) hB (.int .i64 (n2 + m2))
              unfold Blk
              simpa [st] using this
            exact hB2.below (below_dr (Below.refl _ _))
          · exact hS.out.2.1.wrote (Wrote.drew (Wrote.setCell (S := fun p => p.block = g7) (Wrote.refl _ _) rfl _)) (fun p hp => by rw [hp]; exact fun e => hne' e.symm)
          · exact hS.out.2.2.1.wrote (Wrote.drew (Wrote.setCell (S := fun p => p.block = g7) (Wrote.refl _ _) rfl _)) (fun p hp => by rw [hp]; omega)
          · exact below_dr (Below.setCell hS.out.2.2.2 (by show w.heap.size ≤ g7; omega) _)
        case measure => simp [intOf]
      · have hB : Blk wr g7 152 #[.int .i64 (n0 + m0), .int .i64 (n1 + m1), .int .i64 (n2 + m2), .int .i64 n3] := by simpa [st] using hS.out.1
        obtain ⟨c0, c1, c2, c3, c4⟩ := four_cells hB
        obtain ⟨e0, e1, e2, e3, e4⟩ := four_cells hS.out.2.1
        have rf : ∀ k, wr.frozen? ⟨g7, k, none⟩ = false := fun k => Joins.unfrozen_of_block hB k
        go_wp2_with fail
        go_region
        go_wp2_with fail
        go_roundw
        case rel =>
          refine ⟨4, by omega, by go_num, ⟨_, rfl⟩, Lib.hid ⟨?_, ?_, ?_, ?_⟩⟩
          · have hB2 : Blk (wr.setCell ⟨g7, 3, none⟩ (.int .i64 (n3 + m3))) g7 152 (st n0 n1 n2 n3 m0 m1 m2 m3 4) := by
              have := Joins.block_setCell (i := 3) hB (.int .i64 (n3 + m3))
              unfold Blk
              simpa [st] using this
            exact hB2.below (below_dr (Below.refl _ _))
          · exact hS.out.2.1.wrote (Wrote.drew (Wrote.setCell (S := fun p => p.block = g7) (Wrote.refl _ _) rfl _)) (fun p hp => by rw [hp]; exact fun e => hne' e.symm)
          · exact hS.out.2.2.1.wrote (Wrote.drew (Wrote.setCell (S := fun p => p.block = g7) (Wrote.refl _ _) rfl _)) (fun p hp => by rw [hp]; omega)
          · exact below_dr (Below.setCell hS.out.2.2.2 (by show w.heap.size ≤ g7; omega) _)
        case measure => simp [intOf]
      · have hB : Blk wr g7 152 #[.int .i64 (n0 + m0), .int .i64 (n1 + m1), .int .i64 (n2 + m2), .int .i64 (n3 + m3)] := by simpa [st] using hS.out.1
        obtain ⟨c0, c1, c2, c3, c4⟩ := four_cells hB
        obtain ⟨r0, r1, r2, r3, r4⟩ := four_cells hS.out.2.2.1
        have rf : ∀ k, wr.frozen? ⟨w.heap.size, k, none⟩ = false := fun k => Joins.unfrozen_of_block hS.out.2.2.1 k
        have HB := Lib.hid hS.out.2.2.2
        clear hS
        go_wp2_with fail
        refine bodyPost_ret (v := .agg #[.int .i64 (n0 + m0), .int .i64 (n1 + m1), .int .i64 (n2 + m2), .int .i64 (n3 + m3)]) (by simp [results, Try.results147, go_sem, r0, r1, r2, r3]) rfl ⟨rfl, ?_⟩
        repeat (refine Below.setCell ?_ (by simp <;> omega) _)
        exact HB.out

end Go.Proofs.Ytiigfhigmdjooaa.mix
