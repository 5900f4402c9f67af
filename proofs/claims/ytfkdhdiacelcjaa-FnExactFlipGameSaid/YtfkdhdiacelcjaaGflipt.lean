/- l4Flip of the model. -/
import Derived.Test.YtfkdhdiacelcjaaGflipb
import Derived.Test.YtfkdhdiacelcjaaGway
import Derived.Test.YtfkdhdiacelcjaaOwnz
import Derived.Test.YtfkdhdiacelcjaaInv
import Derived.BigRegion
namespace Go.Proofs.Ytfkdhdiacelcjaa.gflip
open Go.RowKit Go.Deep Go.Proofs.Ytfkdhdiacelcjaa.base
open Go.Proofs.Ytfkdhdiacelcjaa.ints (ret_int infoInt infoInts)
open Go.Proofs.Ytfkdhdiacelcjaa.inv (upd)
open Go.Proofs.Ytfkdhdiacelcjaa.val (okSizes)
open Go.Proofs.Ytfkdhdiacelcjaa.row (nn)

theorem xor_lt : ∀ f k : Fin 4, k.val ^^^ f.val < 4 := by decide
theorem xor_bits : ∀ f k : Fin 4, bits .xor .i64 ((k.val : Nat) : Int) ((f.val : Nat) : Int) = ((k.val ^^^ f.val : Nat) : Int) := by decide
def set4 (W : World) (g : Nat) (u0 u1 u2 u3 : Value) : World := (((W.setCell ⟨g, 0, none⟩ u0).setCell ⟨g, 1, none⟩ u1).setCell ⟨g, 2, none⟩ u2).setCell ⟨g, 3, none⟩ u3
theorem set4_same {W : World} {g : Nat} {t : TypeId} {z0 z1 z2 z3 : Value} (u0 u1 u2 u3 : Value) (h : Blk W g t #[z0, z1, z2, z3]) : Blk (set4 W g u0 u1 u2 u3) g t #[u0, u1, u2, u3] := by
  have h1 := Joins.block_setCell (i := 0) h u0
  have h2 := Joins.block_setCell (i := 1) h1 u1
  have h3 := Joins.block_setCell (i := 2) h2 u2
  have h4 := Joins.block_setCell (i := 3) h3 u3
  unfold Blk set4
  simpa using h4
theorem set4_below {w W : World} {g : Nat} (u0 u1 u2 u3 : Value) (h : Below w.heap.size w W) (hg : w.heap.size ≤ g) : Below w.heap.size w (set4 W g u0 u1 u2 u3) := by
  unfold set4
  repeat (first | exact h | refine Below.setCell ?_ hg _)
theorem set4_owns {W : World} {g B e z n t : Nat} {v : Value} {xs : List Value} {cs : Array Value} (u0 u1 u2 u3 : Value) (h : W.ownsRow B e z v n xs) (hk : Blk W g t cs) (he : e ≠ t) : (set4 W g u0 u1 u2 u3).ownsRow B e z v n xs := by
  have hn := gway.apart_blk h hk he
  unfold set4
  exact ownsRow_setCell_other (ownsRow_setCell_other (ownsRow_setCell_other (ownsRow_setCell_other h hn _) hn _) hn _) hn _
theorem owns_mono {w : World} {B B' e z n : Nat} {v : Value} {xs : List Value} (h : w.ownsRow B e z v n xs) (hB : B' ≤ B) : w.ownsRow B' e z v n xs := by
  rcases h with ⟨h1, h2 | ⟨g, cap, cur, rfl, hb, hh, h⟩⟩
  · exact ⟨h1, .inl h2⟩
  · exact ⟨h1, .inr ⟨g, cap, cur, rfl, Nat.le_trans hB hb, hh, h⟩⟩

/-- what has come up of 'impl.Game{X: .., Y: .., Weights: l1Own(..), Wins: [][]int{}}' -/
structure FJ (WB : World) (p : Nat) (X Y : Int) (wv : Value) (ws : List Int) (L : Nat → Bool) (s5 s10 s11 s12 s13 s14 s15 s16 s17 s18 : Value) (W : World) : Prop where
  fb : Below WB.heap.size WB W
  f0 : L 0 = true → s10 = .pointer (some ⟨p, 0, none⟩)
  f1 : L 1 = true → s11 = .int .i64 X
  f2 : L 2 = true → s12 = .pointer (some ⟨p, 1, none⟩)
  f3 : L 3 = true → s13 = .int .i64 Y
  f4 : L 4 = true → s14 = .pointer (some ⟨p, 2, none⟩)
  f5 : L 5 = true → s15 = wv
  f6 : L 6 = true → W.ownsRow WB.heap.size 3 1 s16 ws.length (i64s ws)
  f7 : L 7 = true → W.ownsRow WB.heap.size 22 1 s17 0 []
  f8 : L 8 = true → L 6 = true ∧ L 7 = true ∧ s18 = .agg #[.int .i64 X, .int .i64 Y, s16, s17]
  f9 : L 9 = true → ∃ g, s5 = .pointer (some ⟨g, 0, none⟩) ∧ WB.heap.size ≤ g ∧ Blk W g 25 (if L 10 = true then #[.int .i64 X, .int .i64 Y, s16, s17] else #[.int .i64 0, .int .i64 0, .slice none 0 0, .slice none 0 0])
  fl : L 10 = true → L 9 = true ∧ L 6 = true ∧ L 7 = true
theorem keep9 {WB W W' : World} {s : Value} {cs : Array Value} (hb : Below W.heap.size W W') (h : ∃ g : Nat, s = .pointer (some ⟨g, 0, none⟩) ∧ WB.heap.size ≤ g ∧ Blk W g 25 cs) : ∃ g : Nat, s = .pointer (some ⟨g, 0, none⟩) ∧ WB.heap.size ≤ g ∧ Blk W' g 25 cs := by
  obtain ⟨g, e, hg, hk⟩ := h
  exact ⟨g, e, hg, hk.below hb⟩

set_option maxRecDepth 100000 in
set_option maxHeartbeats 8000000 in
theorem l4flip (X Y : Nat) (wv : Value) (ws : List Int) (u : Value) (xss : List (List Int)) (fv : Value) (fs : List Int) (w : World) (h : game.GV w wv ws u xss) (hf : Ints w fv fs) (hok : all X Y ws xss fs) (hn : ws.length ≤ 1048576) :
    Calls Try.prog 67 #[.agg #[.int .i64 (X : Int), .int .i64 (Y : Int), wv, u], fv] w fun e w' => ∃ a r, e = .returned (.agg #[.int .i64 (X : Int), .int .i64 (Y : Int), a, r]) ∧ OwnInts w' w.heap.size w'.heap.size a ws ∧ OwnRows w' w.heap.size w'.heap.size r (make.rowsOf (N xss fs X Y) (X * Y)) ∧ Below w.heap.size w w' := by
  obtain ⟨s0, si, sz0, sz1, sz2⟩ := info_parts infoInts
  obtain ⟨wa, wn, wc, ua, un, uc, rfl, rfl⟩ := h.shape
  obtain ⟨fa, fn, fc, rfl⟩ := hf.shape
  have H := Lib.hid h
  have HF := Lib.hid hf
  have HALL := Lib.hid hok
  have K0 := Lib.hid (Blk.new w 25 #[.int .i64 (X : Int), .int .i64 (Y : Int), .slice wa wn wc, .slice ua un uc])
  have K1 := Lib.hid (K0.out.alloc (.cells #[.int .i64 0, .int .i64 0, .slice none 0 0, .slice none 0 0] 25))
  have R1 : Hid (Blk ((w.alloc (.cells #[.int .i64 (X : Int), .int .i64 (Y : Int), .slice wa wn wc, .slice ua un uc] 25)).alloc (.cells #[.int .i64 0, .int .i64 0, .slice none 0 0, .slice none 0 0] 25)) (w.heap.size + 1) 25 #[.int .i64 0, .int .i64 0, .slice none 0 0, .slice none 0 0]) := Lib.hid (by have := Blk.new (w.alloc (.cells #[.int .i64 (X : Int), .int .i64 (Y : Int), .slice wa wn wc, .slice ua un uc] 25)) 25 #[.int .i64 0, .int .i64 0, .slice none 0 0, .slice none 0 0]; simpa using this)
  have B0 := Lib.hid (below_al (below_al (Below.refl w.heap.size w) (.cells #[.int .i64 (X : Int), .int .i64 (Y : Int), .slice wa wn wc, .slice ua un uc] 25)) (.cells #[.int .i64 0, .int .i64 0, .slice none 0 0, .slice none 0 0] 25))
  have HOW := Lib.hid (fun (W : World) (hb : Below ((w.alloc (.cells #[.int .i64 (X : Int), .int .i64 (Y : Int), .slice wa wn wc, .slice ua un uc] 25)).alloc (.cells #[.int .i64 0, .int .i64 0, .slice none 0 0, .slice none 0 0] 25)).heap.size ((w.alloc (.cells #[.int .i64 (X : Int), .int .i64 (Y : Int), .slice wa wn wc, .slice ua un uc] 25)).alloc (.cells #[.int .i64 0, .int .i64 0, .slice none 0 0, .slice none 0 0] 25)) W) => own.l1own_any _ ws W (h.ints.below (below_tr B0.out hb)) hn)
  clear h hf hok
  go_enter Try.func67, Try.ntmps67
  go_wp2_with fail
  refine inv.start (by kernel_rfl) (fun l a' W => ∃ s5 s10 s11 s12 s13 s14 s15 s16 s17 s18 : Value, a' = { tmps := #[.agg #[.int .i64 (X : Int), .int .i64 (Y : Int), .slice wa wn wc, .slice ua un uc], .slice fa fn fc, .pointer (some ⟨w.heap.size, 0, none⟩), undef, .pointer (some ⟨w.heap.size + 1, 0, none⟩), s5, undef, undef, undef, undef, s10, s11, s12, s13, s14, s15, s16, s17, s18, undef, undef, undef, undef, undef, undef, undef, undef, undef, undef, undef, undef, undef, undef, undef, undef, undef, undef, undef, undef, undef, undef, undef, undef, undef, undef, undef, undef, undef, undef, undef, undef, undef, undef, undef, undef, undef, undef, undef, undef, undef, undef, undef, undef, undef, undef, undef, undef, undef, undef, undef, undef, undef, undef], defers := [] } ∧ l.size = 11 ∧ FJ ((w.alloc (.cells #[.int .i64 (X : Int), .int .i64 (Y : Int), .slice wa wn wc, .slice ua un uc] 25)).alloc (.cells #[.int .i64 0, .int .i64 0, .slice none 0 0, .slice none 0 0] 25)) w.heap.size X Y (.slice wa wn wc) ws (fun k => l.getD k false) s5 s10 s11 s12 s13 s14 s15 s16 s17 s18 W) ?_ ?_ ?_
  · refine ⟨_, _, _, _, _, _, _, _, _, _, rfl, by simp, ?_⟩
    exact ⟨below_dr (Below.refl _ _), fun h => by simp at h, fun h => by simp at h, fun h => by simp at h, fun h => by simp at h, fun h => by simp at h, fun h => by simp at h, fun h => by simp at h, fun h => by simp at h, fun h => by simp at h, fun h => by simp at h, fun h => by simp at h⟩
  · rintro l a' W i ⟨s5, s10, s11, s12, s13, s14, s15, s16, s17, s18, rfl, hsz, h⟩ hi
    have hlt : i < 11 := (inv.ready_lt hi).1
    obtain rfl | rfl | rfl | rfl | rfl | rfl | rfl | rfl | rfl | rfl | rfl : i = 0 ∨ i = 1 ∨ i = 2 ∨ i = 3 ∨ i = 4 ∨ i = 5 ∨ i = 6 ∨ i = 7 ∨ i = 8 ∨ i = 9 ∨ i = 10 := by omega
    · obtain ⟨hun, o, ho, hall⟩ := mem_ready.1 hi
      obtain rfl : _ = o := Option.some.inj ho
      have hoff := inv.off l 0 hun
      have hup := inv.upd_eq l 0 hun
      refine wpOp_step rfl (fun K' hK => ?_)
      have HK := Lib.hid hK
      clear hK hall ho
      go_simp
      refine HK.out _ _ ⟨_, _, _, _, _, _, _, _, _, _, rfl, by simp [hsz], ?_⟩
      rw [hup]
      exact ⟨h.fb, fun _ => rfl, h.f1, h.f2, h.f3, h.f4, h.f5, h.f6, h.f7, h.f8, h.f9, h.fl⟩
    · obtain ⟨hun, o, ho, hall⟩ := mem_ready.1 hi
      obtain rfl : _ = o := Option.some.inj ho
      have hoff := inv.off l 1 hun
      have hup := inv.upd_eq l 1 hun
      have d0 : l.getD 0 false = true := hall ⟨0, .data⟩ (by simp) (by decide)
      obtain rfl := h.f0 d0
      obtain ⟨c0, c1, c2, c3, c4⟩ := four_cells (K1.out.below h.fb)
      refine wpOp_step rfl (fun K' hK => ?_)
      have HK := Lib.hid hK
      clear hK hall ho
      go_simp
      refine HK.out _ _ ⟨_, _, _, _, _, _, _, _, _, _, rfl, by simp [hsz], ?_⟩
      rw [hup]
      exact ⟨h.fb, h.f0, fun _ => rfl, h.f2, h.f3, h.f4, h.f5, h.f6, h.f7, h.f8, h.f9, h.fl⟩
    · obtain ⟨hun, o, ho, hall⟩ := mem_ready.1 hi
      obtain rfl : _ = o := Option.some.inj ho
      have hoff := inv.off l 2 hun
      have hup := inv.upd_eq l 2 hun
      refine wpOp_step rfl (fun K' hK => ?_)
      have HK := Lib.hid hK
      clear hK hall ho
      go_simp
      refine HK.out _ _ ⟨_, _, _, _, _, _, _, _, _, _, rfl, by simp [hsz], ?_⟩
      rw [hup]
      exact ⟨h.fb, h.f0, h.f1, fun _ => rfl, h.f3, h.f4, h.f5, h.f6, h.f7, h.f8, h.f9, h.fl⟩
    · obtain ⟨hun, o, ho, hall⟩ := mem_ready.1 hi
      obtain rfl : _ = o := Option.some.inj ho
      have hoff := inv.off l 3 hun
      have hup := inv.upd_eq l 3 hun
      have d2 : l.getD 2 false = true := hall ⟨2, .data⟩ (by simp) (by decide)
      obtain rfl := h.f2 d2
      obtain ⟨c0, c1, c2, c3, c4⟩ := four_cells (K1.out.below h.fb)
      refine wpOp_step rfl (fun K' hK => ?_)
      have HK := Lib.hid hK
      clear hK hall ho
      go_simp
      refine HK.out _ _ ⟨_, _, _, _, _, _, _, _, _, _, rfl, by simp [hsz], ?_⟩
      rw [hup]
      exact ⟨h.fb, h.f0, h.f1, h.f2, fun _ => rfl, h.f4, h.f5, h.f6, h.f7, h.f8, h.f9, h.fl⟩
    · obtain ⟨hun, o, ho, hall⟩ := mem_ready.1 hi
      obtain rfl : _ = o := Option.some.inj ho
      have hoff := inv.off l 4 hun
      have hup := inv.upd_eq l 4 hun
      refine wpOp_step rfl (fun K' hK => ?_)
      have HK := Lib.hid hK
      clear hK hall ho
      go_simp
      refine HK.out _ _ ⟨_, _, _, _, _, _, _, _, _, _, rfl, by simp [hsz], ?_⟩
      rw [hup]
      exact ⟨h.fb, h.f0, h.f1, h.f2, h.f3, fun _ => rfl, h.f5, h.f6, h.f7, h.f8, h.f9, h.fl⟩
    · obtain ⟨hun, o, ho, hall⟩ := mem_ready.1 hi
      obtain rfl : _ = o := Option.some.inj ho
      have hoff := inv.off l 5 hun
      have hup := inv.upd_eq l 5 hun
      have d4 : l.getD 4 false = true := hall ⟨4, .data⟩ (by simp) (by decide)
      obtain rfl := h.f4 d4
      obtain ⟨c0, c1, c2, c3, c4⟩ := four_cells (K1.out.below h.fb)
      refine wpOp_step rfl (fun K' hK => ?_)
      have HK := Lib.hid hK
      clear hK hall ho
      go_simp
      refine HK.out _ _ ⟨_, _, _, _, _, _, _, _, _, _, rfl, by simp [hsz], ?_⟩
      rw [hup]
      exact ⟨h.fb, h.f0, h.f1, h.f2, h.f3, h.f4, fun _ => rfl, h.f6, h.f7, h.f8, h.f9, h.fl⟩
    · obtain ⟨hun, o, ho, hall⟩ := mem_ready.1 hi
      obtain rfl : _ = o := Option.some.inj ho
      have hoff := inv.off l 6 hun
      have hup := inv.upd_eq l 6 hun
      have d5 : l.getD 5 false = true := hall ⟨5, .data⟩ (by simp) (by decide)
      obtain rfl := h.f5 d5
      have hno : ¬ l.getD 8 false = true := fun e => by have := (h.f8 e).1; simp only [hoff] at this; cases this
      have hno' : ¬ l.getD 10 false = true := fun e => by have := (h.fl e).2.1; simp only [hoff] at this; cases this
      refine wpOp_step rfl (fun K' hK => ?_)
      have HK := Lib.hid hK
      clear hK hall ho
      go_simp
      (go_at_call 56; (with_reducible refine (HOW.out _ h.fb).mono ?_); rintro e W' ⟨rv, rfl, hown, hb⟩)
      try go_simp
      refine HK.out _ _ ⟨_, _, _, _, _, _, _, _, _, _, rfl, by simp [hsz], ?_⟩
      rw [hup]
      exact ⟨below_tr h.fb hb, h.f0, h.f1, h.f2, h.f3, h.f4, h.f5, fun _ => owns_mono hown h.fb.size, fun hh => app.owns_below (h.f7 hh) hb, fun hh => absurd hh hno, fun hh => by have h1 := keep9 hb (h.f9 hh); have e : upd (fun k => l.getD k false) 6 10 = l.getD 10 false := rfl; rw [if_neg hno'] at h1; rw [e, if_neg hno']; exact h1, fun hh => absurd hh hno'⟩
    · obtain ⟨hun, o, ho, hall⟩ := mem_ready.1 hi
      obtain rfl : _ = o := Option.some.inj ho
      have hoff := inv.off l 7 hun
      have hup := inv.upd_eq l 7 hun
      have hno : ¬ l.getD 8 false = true := fun e => by have := (h.f8 e).2.1; simp only [hoff] at this; cases this
      have hno' : ¬ l.getD 10 false = true := fun e => by have := (h.fl e).2.2; simp only [hoff] at this; cases this
      have hb := below_al (Below.refl W.heap.size W) (.cells #[] 22)
      have hmade := World.ownsRow_made (base := ((w.alloc (.cells #[.int .i64 (X : Int), .int .i64 (Y : Int), .slice wa wn wc, .slice ua un uc] 25)).alloc (.cells #[.int .i64 0, .int .i64 0, .slice none 0 0, .slice none 0 0] 25)).heap.size) (e := 22) (size := 1) W #[] 0 h.fb.size (Nat.zero_le _) rfl
      refine wpOp_step rfl (fun K' hK => ?_)
      have HK := Lib.hid hK
      clear hK hall ho
      go_simp
      refine HK.out _ _ ⟨_, _, _, _, _, _, _, _, _, _, rfl, by simp [hsz], ?_⟩
      rw [hup]
      exact ⟨below_tr h.fb hb, h.f0, h.f1, h.f2, h.f3, h.f4, h.f5, fun hh => app.owns_below (h.f6 hh) hb, fun _ => hmade, fun hh => absurd hh hno, fun hh => by have h1 := keep9 hb (h.f9 hh); have e : upd (fun k => l.getD k false) 7 10 = l.getD 10 false := rfl; rw [if_neg hno'] at h1; rw [e, if_neg hno']; exact h1, fun hh => absurd hh hno'⟩
    · obtain ⟨hun, o, ho, hall⟩ := mem_ready.1 hi
      obtain rfl : _ = o := Option.some.inj ho
      have hoff := inv.off l 8 hun
      have hup := inv.upd_eq l 8 hun
      have d1 : l.getD 1 false = true := hall ⟨1, .data⟩ (by simp) (by decide)
      have d3 : l.getD 3 false = true := hall ⟨3, .data⟩ (by simp) (by decide)
      have d6 : l.getD 6 false = true := hall ⟨6, .data⟩ (by simp) (by decide)
      have d7 : l.getD 7 false = true := hall ⟨7, .data⟩ (by simp) (by decide)
      obtain rfl := h.f1 d1
      obtain rfl := h.f3 d3
      obtain ⟨xa, xl, xc, rfl⟩ := make.shape (h.f6 d6)
      obtain ⟨ya, yl, yc, rfl⟩ := make.shape (h.f7 d7)
      refine wpOp_step rfl (fun K' hK => ?_)
      have HK := Lib.hid hK
      clear hK hall ho
      go_simp
      refine HK.out _ _ ⟨_, _, _, _, _, _, _, _, _, _, rfl, by simp [hsz], ?_⟩
      rw [hup]
      exact ⟨h.fb, h.f0, h.f1, h.f2, h.f3, h.f4, h.f5, h.f6, h.f7, fun _ => ⟨d6, d7, rfl⟩, h.f9, h.fl⟩
    · obtain ⟨hun, o, ho, hall⟩ := mem_ready.1 hi
      obtain rfl : _ = o := Option.some.inj ho
      have hoff := inv.off l 9 hun
      have hup := inv.upd_eq l 9 hun
      have hno' : ¬ l.getD 10 false = true := fun e => by have := (h.fl e).1; simp only [hoff] at this; cases this
      have hb := below_al (Below.refl W.heap.size W) (.cells #[.int .i64 0, .int .i64 0, .slice none 0 0, .slice none 0 0] 25)
      have hnew := Blk.new W 25 #[.int .i64 0, .int .i64 0, .slice none 0 0, .slice none 0 0]
      refine wpOp_step rfl (fun K' hK => ?_)
      have HK := Lib.hid hK
      clear hK hall ho
      go_simp
      refine HK.out _ _ ⟨_, _, _, _, _, _, _, _, _, _, rfl, by simp [hsz], ?_⟩
      rw [hup]
      exact ⟨below_tr h.fb hb, h.f0, h.f1, h.f2, h.f3, h.f4, h.f5, fun hh => app.owns_below (h.f6 hh) hb, fun hh => app.owns_below (h.f7 hh) hb, h.f8, fun _ => ⟨W.heap.size, rfl, h.fb.size, by have e : upd (fun k => l.getD k false) 9 10 = l.getD 10 false := rfl; rw [e, if_neg hno']; exact hnew⟩, fun hh => absurd hh hno'⟩
    · obtain ⟨hun, o, ho, hall⟩ := mem_ready.1 hi
      obtain rfl : _ = o := Option.some.inj ho
      have hoff := inv.off l 10 hun
      have hup := inv.upd_eq l 10 hun
      have d9 : l.getD 9 false = true := hall ⟨9, .data⟩ (by simp) (by decide)
      have d8 : l.getD 8 false = true := hall ⟨8, .data⟩ (by simp) (by decide)
      obtain ⟨d6, d7, rfl⟩ := h.f8 d8
      obtain ⟨g, rfl, hg, hk⟩ := h.f9 d9
      rw [hoff] at hk
      have hk : Blk W g 25 #[.int .i64 0, .int .i64 0, .slice none 0 0, .slice none 0 0] := hk
      have o6 := h.f6 d6
      have o7 := h.f7 d7
      obtain ⟨xa, xl, xc, rfl⟩ := make.shape o6
      obtain ⟨ya, yl, yc, rfl⟩ := make.shape o7
      obtain ⟨c0, c1, c2, c3, c4⟩ := four_cells hk
      have rf : ∀ k, W.frozen? ⟨g, k, none⟩ = false := fun k => Joins.unfrozen_of_block hk k
      refine wpOp_step rfl (fun K' hK => ?_)
      have HK := Lib.hid hK
      clear hK hall ho
      go_simp
      refine HK.out _ (set4 W g (.int .i64 (X : Int)) (.int .i64 (Y : Int)) (.slice xa xl xc) (.slice ya yl yc)) ⟨_, _, _, _, _, _, _, _, _, _, rfl, by simp [hsz], ?_⟩
      rw [hup]
      exact ⟨set4_below _ _ _ _ h.fb hg, h.f0, h.f1, h.f2, h.f3, h.f4, h.f5, fun _ => set4_owns _ _ _ _ o6 hk (by decide), fun _ => set4_owns _ _ _ _ o7 hk (by decide), fun _ => ⟨d6, d7, rfl⟩, fun _ => ⟨g, rfl, hg, set4_same _ _ _ _ hk⟩, fun _ => ⟨d9, d6, d7⟩⟩
  · rintro l a' W ⟨s5, s10, s11, s12, s13, s14, s15, s16, s17, s18, rfl, hsz, h⟩ hr
    have hup : ∀ i, i < 11 → l.getD i false = true := inv.all_up (by kernel_rfl) hsz hr
    have o6 := h.f6 (hup 6 (by omega))
    have o7 := h.f7 (hup 7 (by omega))
    obtain ⟨g, e5, hg, hk⟩ := h.f9 (hup 9 (by omega))
    rw [if_pos (hup 10 (by omega))] at hk
    obtain ⟨xa, xl, xc, e6⟩ := make.shape o6
    obtain ⟨ya, yl, yc, e7⟩ := make.shape o7
    obtain ⟨_, _, e8⟩ := h.f8 (hup 8 (by omega))
    have e0 := h.f0 (hup 0 (by omega))
    have e1 := h.f1 (hup 1 (by omega))
    have e2 := h.f2 (hup 2 (by omega))
    have e3 := h.f3 (hup 3 (by omega))
    have e4 := h.f4 (hup 4 (by omega))
    have e55 := h.f5 (hup 5 (by omega))
    subst e8
    subst e5 e0 e1 e2 e3 e4 e55 e6 e7
    have WY : Hid (gway.Way ((w.alloc (.cells #[.int .i64 (X : Int), .int .i64 (Y : Int), .slice wa wn wc, .slice ua un uc] 25)).alloc (.cells #[.int .i64 0, .int .i64 0, .slice none 0 0, .slice none 0 0] 25)) W g X Y (.slice xa xl xc) ws 0 (.slice ya yl yc) [] (N xss fs X Y)) := Lib.hid (gway.Way.start h.fb hg hk o7 o6)
    clear h o6 o7 hk hup hr hsz HOW
    have hWZ : ((w.alloc (.cells #[.int .i64 (X : Int), .int .i64 (Y : Int), .slice wa wn wc, .slice ua un uc] 25)).alloc (.cells #[.int .i64 0, .int .i64 0, .slice none 0 0, .slice none 0 0] 25)).heap.size = w.heap.size + 1 + 1 := by simp
    generalize ((w.alloc (.cells #[.int .i64 (X : Int), .int .i64 (Y : Int), .slice wa wn wc, .slice ua un uc] 25)).alloc (.cells #[.int .i64 0, .int .i64 0, .slice none 0 0, .slice none 0 0] 25)) = WB at *
    obtain ⟨hokg, hfw⟩ := HALL.out
    have hX := hokg.1.1
    have hY := hokg.1.2
    have h9 : X * Y ≤ 9 := Nat.mul_le_mul (by omega : X ≤ 3) (by omega : Y ≤ 3)
    have hlen : xss.length = X * Y := by have := hokg.2.2.1; rw [← Int.natCast_mul] at this; omega
    have hp1 : 0 < X * Y := Nat.mul_pos (by omega) (by omega)
    have hl : fs.length = X + Y := by have := hfw.1; omega
    obtain ⟨A, ub, uo, uc', R, hv, _, _, hA, hcc⟩ := H.out.rows.form
    obtain rfl := hA (by omega)
    injection hv with v1 v2 v3
    subst v1
    subst v2
    subst v3
    obtain ⟨F, fb, fo', fc', hv, _, _, hF, hfc⟩ := HF.out.form
    obtain rfl := hF (by omega)
    injection hv with v1 v2 v3
    subst v1
    subst v2
    subst v3
    have HCC := Lib.hid (fun (t : Nat) (ht : t < xss.length) => show ∃ b2 o2 cap2, w.cell? ⟨ub, uo + t, none⟩ = some (.slice (some ⟨b2, o2, none⟩) 4 cap2) ∧ ∀ k, k < 4 → w.cell? ⟨b2, o2 + k, none⟩ = some (.int .i64 (nn xss t k)) from by
      obtain ⟨g0, g1⟩ := hcc t ht
      obtain ⟨b2, o2, cap2, e, _, _, k0, k1, k2, k3⟩ := gwon.cells4 (W := w) hokg ht (by rw [row.getD_lt ht]; exact g1)
      refine ⟨b2, o2, cap2, by rw [g0, e], fun k hk => ?_⟩
      match k, hk with
      | 0, _ => exact k0
      | 1, _ => exact k1
      | 2, _ => exact k2
      | 3, _ => exact k3)
    have HFC := Lib.hid (fun (k : Nat) (hk : k < fs.length) => show w.cell? ⟨fb, fo' + k, none⟩ = some (.int .i64 (fs.getD k 0)) ∧ 0 ≤ fs.getD k 0 ∧ fs.getD k 0 ≤ 1 from by
      rw [getD_at hk]; exact ⟨hfc k hk, hfw.2 k hk⟩)
    have HLEN := Lib.hid hlen
    have HLF := Lib.hid hl
    have H9 := Lib.hid h9
    obtain ⟨XX, hXX⟩ : ∃ XX, xss.length = XX := ⟨_, rfl⟩
    clear hcc hfc hokg hfw hA hF hlen hp1 hl h9
    rw [hXX] at K0 K1 HCC HLEN ⊢
    go_wp2_with fail
    go_loopw [6, 7, 8, 9] (fun i z7 z8 z9 wr => ∃ a : Nat, a ≤ X ∧ i = .int .i64 a ∧ (∃ z, z7 = z) ∧ (∃ z, z8 = z) ∧ (∃ z, z9 = z) ∧ ∃ v vals, Hid (gway.Way WB wr g X Y (.slice xa xl xc) ws (a * Y) v vals (N xss fs X Y))) (fun i _ _ _ _ => X - (intOf i).toNat)
    case atStart => exact ⟨0, Nat.zero_le _, rfl, ⟨_, rfl⟩, ⟨_, rfl⟩, ⟨_, rfl⟩, _, _, by rw [Nat.zero_mul]; exact WY⟩
    case round =>
      obtain ⟨a, ha, rfl, ⟨z7, rfl⟩, ⟨z8, rfl⟩, ⟨z9, rfl⟩, v, vals, hW⟩ := hrel
      clear WY
      obtain ⟨wo, rfl⟩ : ∃ wo : World, wo = wr := ⟨_, rfl⟩
      by_cases hlt : a < X
      · have hkz : (a : Int) < (X : Int) := by omega
        obtain ⟨c0, c1, c2, c3, c4⟩ := four_cells (K1.out.below hW.out.below)
        go_wp2_with fail
        clear c0 c1 c2 c3 c4
        go_loopw [7, 8, 9] (fun j z8 z9 wi => ∃ c : Nat, c ≤ Y ∧ j = .int .i64 c ∧ (∃ z, z8 = z) ∧ (∃ z, z9 = z) ∧ ∃ v vals, Hid (gway.Way WB wi g X Y (.slice xa xl xc) ws (a * Y + c) v vals (N xss fs X Y))) (fun j _ _ _ => Y - (intOf j).toNat)
        case atStart => exact ⟨0, Nat.zero_le _, rfl, ⟨_, rfl⟩, ⟨_, rfl⟩, _, _, hW⟩
        case round =>
          clear hW
          obtain ⟨c, hcl, rfl, ⟨z8, rfl⟩, ⟨z9, rfl⟩, v, vals, hW⟩ := hrel
          obtain ⟨wi, rfl⟩ : ∃ wi : World, wi = wr := ⟨_, rfl⟩
          have PI := Lib.hid (K1.out.below hW.out.below)
          have BI := Lib.hid (below_tr B0.out hW.out.below)
          obtain ⟨c0, c1, c2, c3, c4⟩ := four_cells PI.out
          by_cases hlc : c < Y
          · have hkc : (c : Int) < (Y : Int) := by omega
            have hk9 : a * Y + c < X * Y := by
              have h1 : a * Y + c < (a + 1) * Y := by rw [Nat.add_mul]; omega
              have h2 : (a + 1) * Y ≤ X * Y := Nat.mul_le_mul_right _ (by omega)
              omega
            have hkx : a * Y + c < XX := by have := HLEN.out; omega
            have HK9 : Hid (a * Y + c < 9) := Lib.hid (by have := H9.out; omega)
            have hal : a < fs.length := by have := HLF.out; omega
            have hdl : X + c < fs.length := by have := HLF.out; omega
            obtain ⟨b2, o2, cap2, gt, gn⟩ := HCC.out _ hkx
            obtain ⟨g1, p1, p2⟩ := HFC.out a hal
            obtain ⟨g2, q1, q2⟩ := HFC.out (X + c) hdl
            have hfo := fo_at fs X Y a c hlc
            have HN : Hid (∀ j, N xss fs X Y (a * Y + c) j = nn xss (a * Y + c) (j ^^^ fo fs X Y (a * Y + c))) := Lib.hid (fun j => rfl)
            have HGN := Lib.hid gn
            have HKN := Lib.hid (show make.quad (N xss fs X Y) (a * Y + c) = [N xss fs X Y (a * Y + c) 0, N xss fs X Y (a * Y + c) 1, N xss fs X Y (a * Y + c) 2, N xss fs X Y (a * Y + c) 3] from rfl)
            have km : IntKind.i64.wrap ((a : Int) * (Y : Int)) = ((a * Y : Nat) : Int) := by rw [IntWalk.i64_in _ (by rw [← Int.natCast_mul]; have := HK9.out; omega)]; simp
            have hf4 : fo fs X Y (a * Y + c) < 4 := by rw [hfo]; omega
            generalize fs.getD a 0 = p at *
            generalize fs.getD (X + c) 0 = qq at *
            generalize hfe : fo fs X Y (a * Y + c) = f at *
            obtain ⟨t, ht⟩ : ∃ t, a * Y + c = t := ⟨_, rfl⟩
            obtain ⟨m, hm⟩ : ∃ m, a * Y = m := ⟨_, rfl⟩
            obtain ⟨d, hd⟩ : ∃ d, X + c = d := ⟨_, rfl⟩
            have kt : IntKind.i64.wrap ((m : Int) + (c : Int)) = (t : Int) := by rw [IntWalk.i64_in _ (by have := HK9.out; omega)]; omega
            have kd : IntKind.i64.wrap ((X : Int) + (c : Int)) = (d : Int) := by rw [IntWalk.i64_in _ (by omega)]; omega
            have kp : IntKind.i64.wrap (2 * p) = 2 * p := IntWalk.i64_in _ (by omega)
            have kf : IntKind.i64.wrap (2 * p + qq) = (f : Int) := by rw [IntWalk.i64_in _ (by omega)]; omega
            have HMT := Lib.hid ht
            have HF4 := Lib.hid hf4
            rw [ht] at gt hkx HGN HKN HN HK9
            rw [hm] at km
            rw [hd] at g2 hdl
            have i1 : (a : Int) < (fs.length : Int) := by omega
            have i2 : (d : Int) < (fs.length : Int) := by omega
            have i4 : (t : Int) < (XX : Int) := by omega
            have hm4 := make.mk4
            have HW := hW
            have HFL := Lib.hid hfe
            clear hW gn hfo hf4 hfe ht hm hd hk9 p1 p2 q1 q2
            go_wp2_with fail
            obtain ⟨q, hq⟩ : ∃ q, wi.heap.size = q := ⟨_, rfl⟩
            have hwq : w.heap.size < q := by have := BI.out.size; have := HW.out.below.size; omega
            have HC0 : Hid ((wi.alloc (.cells #[.int .i64 0, .int .i64 0, .int .i64 0, .int .i64 0] 3)).rowIs q 3 4 (fun j => .int .i64 (if j < 0 then nn xss t (j ^^^ f) else 0)) ∧ Below wi.heap.size wi (wi.alloc (.cells #[.int .i64 0, .int .i64 0, .int .i64 0, .int .i64 0] 3)) ∧ wi.heap.size ≤ q) := Lib.hid (by
              refine ⟨?_, below_al (Below.refl _ _) _, by omega⟩
              rw [← hq]
              refine ⟨_, heap_alloc_new wi _, rfl, fun i hi => ?_⟩
              match i, hi with
              | 0, _ => rfl
              | 1, _ => rfl
              | 2, _ => rfl
              | 3, _ => rfl)
            rw [hq]
            clear c0 c1 c2 c3 c4 hm4
            go_loopw [9] (fun kv wr => ∃ k : Nat, k ≤ 4 ∧ kv = .int .i64 k ∧ Hid (wr.rowIs q 3 4 (fun j => .int .i64 (if j < k then nn xss t (j ^^^ f) else 0)) ∧ Below wi.heap.size wi wr ∧ wi.heap.size ≤ q)) (fun kv _ => 4 - (intOf kv).toNat)
            case atStart => exact ⟨0, Nat.zero_le _, rfl, HC0⟩
            case round =>
              clear HC0
              obtain ⟨k, hk, rfl, hC⟩ := hrel
              obtain ⟨wk, rfl⟩ : ∃ wk : World, wk = wr := ⟨_, rfl⟩
              have BK := Lib.hid (below_tr BI.out hC.out.2.1)
              by_cases hlk : k < 4
              · have hkk : (k : Int) < 4 := by omega
                obtain ⟨c0, c1, c2, c3, c4⟩ := four_cells (PI.out.below hC.out.2.1)
                have e0 := below_cell BK.out _ _ gt
                have e1 := below_cell BK.out _ _ g1
                have e2 := below_cell BK.out _ _ g2
                obtain ⟨e, he⟩ : ∃ e, k ^^^ f = e := ⟨_, rfl⟩
                have kx : bits .xor .i64 (k : Int) (f : Int) = (e : Int) := by rw [← he]; exact xor_bits ⟨f, HF4.out⟩ ⟨k, hlk⟩
                have he4 : e < 4 := by rw [← he]; exact xor_lt ⟨f, HF4.out⟩ ⟨k, hlk⟩
                have i3 : (e : Int) < 4 := by omega
                have e3 := below_cell BK.out _ _ (HGN.out e he4)
                have rf : ∀ k, wk.frozen? ⟨q, k, none⟩ = false := fun k => hC.out.1.frozen k
                have te := hC.out.1.cell (i := k) (by omega)
                have l1 : fb < w.heap.size := World.block_lt_of_cell? _ _ g1
                have l2 : b2 < w.heap.size := World.block_lt_of_cell? _ _ (HGN.out 0 (by omega))
                have l3 : ub < w.heap.size := World.block_lt_of_cell? _ _ gt
                have n0 : w.heap.size ≠ q := by omega
                have n1 : fb ≠ q := by omega
                have n2 : b2 ≠ q := by omega
                have n3 : ub ≠ q := by omega
                have HS := Lib.hid (hC.out.1.set k (.int .i64 (nn xss t e)))
                have HE := Lib.hid he
                have HC1 := hC
                clear he hC
                generalize hnee : nn xss t e = ne at *
                have HNE := Lib.hid hnee
                clear hnee
                go_wp2_with fail
                go_region_held3 (fun w' => w'.cell? ⟨w.heap.size, 0, none⟩ = some (.int .i64 (X : Int)) ∧ w'.cell? ⟨w.heap.size, 1, none⟩ = some (.int .i64 (Y : Int)) ∧ w'.cell? ⟨w.heap.size, 3, none⟩ = some (.slice (some ⟨ub, uo, none⟩) XX uc) ∧ w'.cell? ⟨ub, uo + t, none⟩ = some (.slice (some ⟨b2, o2, none⟩) 4 cap2) ∧ w'.cell? ⟨fb, fo' + a, none⟩ = some (.int .i64 p) ∧ w'.cell? ⟨fb, fo' + d, none⟩ = some (.int .i64 qq) ∧ w'.cell? ⟨b2, o2 + e, none⟩ = some (.int .i64 ne))
                  ((refine step.offs7 (R := q) c0 c1 c3 e0 e1 e2 e3 n0 n0 n0 n3 n1 n1 n2 ?_; repeat (first | (with_reducible exact step.Off.refl _ _) | (with_reducible refine step.Off.drew ?_) | (with_reducible refine step.Off.setCell ?_ _ _ rfl))))
                  (fail)
                clear c0 c1 c2 c3 c4 e0 e1 e2 e3 rf te
                go_wp2_with fail
                go_roundw
                case rel =>
                  refine ⟨k + 1, by omega, by go_num, Lib.hid ⟨?_, ?_, HC1.out.2.2⟩⟩
                  · refine World.rowIs.congr (f := fun j => if j = k then .int .i64 ne else .int .i64 (if j < k then nn xss t (j ^^^ f) else 0)) (by first | exact HS.out | exact HS.out.drew) (fun j hj => ?_)
                    by_cases ej : j = k
                    · rw [if_pos ej, if_pos (by omega), ej, HE.out, HNE.out]
                    · rw [if_neg ej]
                      by_cases e4 : j < k
                      · rw [if_pos e4, if_pos (by omega)]
                      · rw [if_neg e4, if_neg (by omega)]
                  · repeat (first | exact HC1.out.2.1 | refine below_dr ?_ | refine Below.setCell ?_ HC1.out.2.2 _)
                case measure => simp [intOf]; omega
              · have hkk : ¬ (k : Int) < 4 := by omega
                obtain rfl : k = 4 := by omega
                have W2 := Lib.hid (HW.out.keep hC.out.2.1)
                have HRI : Hid (wk.rowIs q 3 4 (fun j => .int .i64 ((make.quad (N xss fs X Y) t).getD j 0))) := Lib.hid (hC.out.1.congr (fun j hj => by
                  rw [if_pos hj, HKN.out]
                  match j, hj with
                  | 0, _ => show Value.int .i64 _ = Value.int .i64 (N xss fs X Y t 0); rw [HN.out]
                  | 1, _ => show Value.int .i64 _ = Value.int .i64 (N xss fs X Y t 1); rw [HN.out]
                  | 2, _ => show Value.int .i64 _ = Value.int .i64 (N xss fs X Y t 2); rw [HN.out]
                  | 3, _ => show Value.int .i64 _ = Value.int .i64 (N xss fs X Y t 3); rw [HN.out]))
                rw [HMT.out] at W2
                obtain ⟨va, vl, vc, rfl⟩ := make.shape W2.out.owns
                obtain ⟨f0, f1, f2, f3, f4⟩ := four_cells W2.out.blk
                have f3' := fun (o1 : Obj) => below_cell (below_al (Below.refl _ _) o1) _ _ f3
                have hsz := W2.out.below.size
                have hbz := W2.out.blk.lt
                have lg := hC.out.2.2
                have hqk := hC.out.1.lt
                have hge : WB.heap.size ≤ q := by have := HW.out.below.size; omega
                go_wp2_with (at_builtin; go_must (refine wpList_append_own _ rfl (.tmp 67) (.tmp 69) 23 rfl WB.heap.size 22 s0 (.slice none 0 0) 1 24 Try.underlying23 si sz0 sz1 sz2 rfl (by decide) _ _ _ rfl ((W2.out.owns).alloc _) ⟨wk.heap.size, 0, none⟩ 1 1 [.slice (some ⟨q, 0, none⟩) 4 4] rfl rfl ?d1 ?d2 ?d3 ?d4 ?d5 ?_))
                try (case d1 => exact app.one_at _ _ _)
                case d2 => first | rfl | (intro u hu; simp at hu; subst hu; rfl) | simp
                case d3 => have := HK9.out; unfold maxLen; omega
                case d4 => have := HK9.out; omega
                case d5 => first | omega | (simp; omega) | (simp at hsz ⊢; omega)
                intro v' w4 hown' hgrow _
                have HG := Lib.hid (W2.out.keep (below_al (Below.refl _ _) (.cells #[.slice (some ⟨q, 0, none⟩) 4 4] 22)))
                obtain ⟨q1, q2⟩ := HG.out.field hgrow
                have HFR : Hid (∀ (r g' : Nat), vals[r]? = some (Value.slice (some ⟨g', 0, none⟩) 4 4) → g' ≠ q) := Lib.hid (fun r g' hu => by
                  obtain ⟨g'', e, _, hr⟩ := HW.out.row r _ hu
                  injection e with e; injection e with e; injection e with e
                  have := hr.lt; omega)
                have hown2 : w4.ownsRow WB.heap.size 22 1 v' (t + 1) (vals ++ [.slice (some ⟨q, 0, none⟩) 4 4]) := by first | exact hown' | (rw [hWZ]; exact hown') | (rw [hWZ]; simpa [hWZ] using hown') | simpa [hWZ] using hown'
                have W4 := HG.out.grow (HRI.out.alloc (.cells #[.slice (some ⟨q, 0, none⟩) 4 4] 22)) hge HFR.out hown2 hgrow
                obtain ⟨ya', yl', yc', rfl⟩ := make.shape hown'
                rw [← HMT.out, Nat.add_assoc] at W4
                have W5 := Lib.hid W4
                clear W4 hown' hown2 hgrow W2 HG HRI HFR hC BK f0 f1 f2 f3 f4 HW
                go_wp2_with fail
                go_roundw
                case rel => exact ⟨c + 1, by omega, by go_num, ⟨_, rfl⟩, ⟨_, rfl⟩, _, _, W5⟩
                case measure => simp [intOf]; omega
          · have hkc : ¬ (c : Int) < (Y : Int) := by omega
            have hcy : a * Y + c = (a + 1) * Y := by rw [Nat.add_mul, Nat.one_mul]; omega
            rw [hcy] at hW
            go_wp2_with fail
            go_roundw
            case rel => exact ⟨a + 1, by omega, by go_num, ⟨_, rfl⟩, ⟨_, rfl⟩, ⟨_, rfl⟩, _, _, hW⟩
            case measure => simp [intOf]; omega
      · have hkz : ¬ (a : Int) < (X : Int) := by omega
        have hae : a = X := by omega
        obtain ⟨va, vl, vc, rfl⟩ := make.shape hW.out.owns
        obtain ⟨c0, c1, c2, c3, c4⟩ := four_cells (K1.out.below hW.out.below)
        obtain ⟨f0, f1, f2, f3, f4⟩ := four_cells hW.out.blk
        have RR := Lib.hid (R1.out.below hW.out.below)
        obtain ⟨r0, r1, r2, r3, r4⟩ := four_cells RR.out
        have rf : ∀ k, wo.frozen? ⟨w.heap.size + 1, k, none⟩ = false := fun k => Joins.unfrozen_of_block RR.out k
        have HD := Lib.hid hW.out.done
        have HWT := Lib.hid (app.ints_of_owns hW.out.wts)
        have BW := Lib.hid (below_tr B0.out hW.out.below)
        have hng : g ≠ w.heap.size + 1 := by omega
        clear hW
        go_wp2_with fail
        refine bodyPost_ret (v := .agg #[.int .i64 (X : Int), .int .i64 (Y : Int), .slice xa xl xc, .slice va vl vc]) (by simp [results, Try.results67, go_sem, r0, r1, r2, r3]) rfl ?_
        refine ⟨_, _, rfl, ?_, ?_, ?_⟩
        · refine (HWT.out.wrote (S := fun p => p.block < WB.heap.size) ?_ (fun p hp => .inl hp)).mono (by omega) (by simp [World.setCell])
          repeat (first | exact Wrote.refl _ _ | refine Wrote.setCell ?_ (by first | omega | (simp; omega)) _)
        · rw [show X * Y = a * Y from by rw [hae]]
          refine (HD.out.wrote (S := fun p => p.block < WB.heap.size) ?_ (fun p hp => .inl hp)).mono (by omega) (by simp [World.setCell])
          repeat (first | exact Wrote.refl _ _ | refine Wrote.setCell ?_ (by first | omega | (simp; omega)) _)
        · repeat (refine Below.setCell ?_ (by simp <;> omega) _)
          exact BW.out
end Go.Proofs.Ytfkdhdiacelcjaa.gflip
