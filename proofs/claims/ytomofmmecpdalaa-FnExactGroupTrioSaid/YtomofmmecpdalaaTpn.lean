/- PairOf of the model: a Box under way as its first region leaves it, in each of its six orders. -/
import Derived.Test.YtomofmmecpdalaaTps
import Derived.Test.YtomofmmecpdalaaMake
import Derived.Test.YtomofmmecpdalaaBuilt
namespace Go.Proofs.Ytomofmmecpdalaa.tpn
open Go.RowKit Go.Deep Go.Proofs.Ytomofmmecpdalaa.base

theorem held4f {B : Nat} {w w' : World} {p1 p2 p3 p4 : Addr} {u1 u2 u3 u4 : Value} (hB : B = w.heap.size) (h1 : w.cell? p1 = some u1) (h2 : w.cell? p2 = some u2) (h3 : w.cell? p3 = some u3) (h4 : w.cell? p4 = some u4) (hf : w.frozen? p4 = false) (hb : Below B w w') :
    w'.cell? p1 = some u1 ∧ w'.cell? p2 = some u2 ∧ w'.cell? p3 = some u3 ∧ w'.cell? p4 = some u4 ∧ w'.frozen? p4 = false ∧ Below B w w' := by
  subst hB
  exact ⟨below_cell hb _ _ h1, below_cell hb _ _ h2, below_cell hb _ _ h3, below_cell hb _ _ h4, (hb.frozen (World.block_lt_of_cell? _ _ h4)).trans hf, hb⟩
theorem own2 {w : World} {B : Nat} {u : Value} {a b : Int} (h : w.ownsRow B 3 1 u 2 (i64s [a, b])) : ∃ g cap, u = .slice (some ⟨g, 0, none⟩) 2 cap ∧ w.cell? ⟨g, 0, none⟩ = some (.int .i64 a) ∧ w.cell? ⟨g, 1, none⟩ = some (.int .i64 b) := by
  have hi := app.ints_of_owns h
  obtain ⟨A, b', o, cap, hv, _, _, hA, hc⟩ := hi.ints.form
  obtain rfl := hA (by simp)
  rcases h.2 with ⟨h0, _⟩ | ⟨g, cap', cur, hv', hg, hh, _⟩
  · rw [hv] at h0; cases h0
  · rw [hv] at hv'
    injection hv' with e1 _ _
    injection e1 with e1
    injection e1 with e1 e2
    subst e1 e2
    exact ⟨b', cap, hv, by simpa using hc 0 (by simp), by simpa using hc 1 (by simp)⟩
theorem cells2 {w : World} {B g c : Nat} {a b : Int} (h : w.ownsRow B 3 1 (.slice (some ⟨g, 0, none⟩) 2 c) 2 (i64s [a, b])) : w.cell? ⟨g, 0, none⟩ = some (.int .i64 a) ∧ w.cell? ⟨g, 1, none⟩ = some (.int .i64 b) := by
  obtain ⟨g', cap, hv, h1, h2⟩ := own2 h
  injection hv with e1 _ _
  injection e1 with e1
  injection e1 with e1 _
  subst e1
  exact ⟨h1, h2⟩
/-- an append to the rows leaves other integers alone -/
theorem keep2 {w W w' : World} {bb k C n : Nat} {x y wh : Int} {v u : Value} {vals xs : List Value} {N : Nat → Nat → Int} (h : make.Way w W bb x y wh k v vals N) (ho : W.ownsRow C 3 1 u n xs) (hg : W.grownBy w' v.ownBlock) (v' : Value) :
    (w'.setCell ⟨bb, 3, none⟩ v').ownsRow C 3 1 u n xs := by
  have nb : some bb ≠ v.ownBlock := fun e => by
    obtain ⟨c, hc⟩ := make.own_type h.owns e.symm
    exact absurd (make.blk_type hc h.blk) (by decide)
  have hB' : Blk w' bb 54 #[.int .i64 x, .int .i64 y, .int .i64 wh, v] := (hg.block _ h.blk.lt nb).trans h.blk
  have k1 := ho.kept hg (built.apart ho h.owns (by decide))
  exact ownsRow_setCell_other k1 (built.apart_blk k1 hB' (by decide)) _
theorem made0 (w : World) {base : Nat} (h : base ≤ w.heap.size) : (w.alloc (.cells #[] 33)).ownsRow base 33 1 (.slice (some ⟨w.heap.size, 0, none⟩) 0 0) 0 [] := by
  have := World.ownsRow_made (base := base) (e := 33) (size := 1) w #[] 0 h (Nat.zero_le _) rfl
  simpa using this
def fill (W : World) (T S : Nat) (wh : Int) : World := (((W.setCell ⟨T, 0, none⟩ (.int .i64 2)).setCell ⟨T, 1, none⟩ (.int .i64 2)).setCell ⟨T, 2, none⟩ (.int .i64 wh)).setCell ⟨T, 3, none⟩ (.slice (some ⟨S, 0, none⟩) 0 0)
theorem fill_same {W : World} {T : Nat} (S : Nat) (wh : Int) (h : Blk W T 54 #[.int .i64 0, .int .i64 0, .int .i64 0, .slice none 0 0]) : Blk (fill W T S wh) T 54 #[.int .i64 2, .int .i64 2, .int .i64 wh, .slice (some ⟨S, 0, none⟩) 0 0] := by
  have h1 := Joins.block_setCell (i := 0) h (.int .i64 2)
  have h2 := Joins.block_setCell (i := 1) h1 (.int .i64 2)
  have h3 := Joins.block_setCell (i := 2) h2 (.int .i64 wh)
  have h4 := Joins.block_setCell (i := 3) h3 (.slice (some ⟨S, 0, none⟩) 0 0)
  unfold Blk fill
  simpa using h4
theorem fill_below {w W : World} {T : Nat} (S : Nat) (wh : Int) (h : Below w.heap.size w W) (hg : w.heap.size ≤ T) : Below w.heap.size w (fill W T S wh) := by
  unfold fill
  repeat (first | exact h | refine Below.setCell ?_ hg _)
theorem fill_owns {W : World} {T B e z n : Nat} {v : Value} {xs : List Value} (S : Nat) (wh : Int) (h : W.ownsRow B e z v n xs) (hk : Blk W T 54 #[.int .i64 0, .int .i64 0, .int .i64 0, .slice none 0 0]) (he : e ≠ 54) : (fill W T S wh).ownsRow B e z v n xs := by
  have hn := built.apart_blk h hk he
  unfold fill
  exact ownsRow_setCell_other (ownsRow_setCell_other (ownsRow_setCell_other (ownsRow_setCell_other h hn _) hn _) hn _) hn _
theorem fill_size (W : World) (T S : Nat) (wh : Int) : (fill W T S wh).heap.size = W.heap.size := by simp [fill, World.setCell]
theorem mono {w : World} {B B' e z n : Nat} {v : Value} {xs : List Value} (h : w.ownsRow B e z v n xs) (hB : B' ≤ B) : w.ownsRow B' e z v n xs := by
  rcases h with ⟨h1, h2 | ⟨g, cap, cur, rfl, hb, hh, h⟩⟩
  · exact ⟨h1, .inl h2⟩
  · exact ⟨h1, .inr ⟨g, cap, cur, rfl, Nat.le_trans hB hb, hh, h⟩⟩

structure Fin (w2 W : World) (T S : Nat) (wh : Int) (u : Value) (xs : List Value) : Prop where
  below : Below w2.heap.size w2 W
  ge : w2.heap.size ≤ T
  blk : Blk W T 54 #[.int .i64 2, .int .i64 2, .int .i64 wh, .slice (some ⟨S, 0, none⟩) 0 0]
  owns : W.ownsRow w2.heap.size 33 1 (.slice (some ⟨S, 0, none⟩) 0 0) 0 []
  oth : W.ownsRow w2.heap.size 3 1 u 2 xs
theorem start0 {wb w2 W : World} {T S : Nat} {wh : Int} {N : Nat → Nat → Int} {u : Value} {xs : List Value} (hb : Below wb.heap.size wb w2) (hs : wb.heap.size < w2.heap.size) (hr : Blk w2 wb.heap.size 54 #[.int .i64 0, .int .i64 0, .int .i64 0, .slice none 0 0]) (h : Fin w2 W T S wh u xs) : make.Way wb W T 2 2 wh 0 (.slice (some ⟨S, 0, none⟩) 0 0) [] N :=
  ⟨below_tr hb h.below, Nat.lt_of_lt_of_le hs h.ge, h.blk, hr.below h.below, mono h.owns hs, fun r u hu => by simp at hu, fun r s g g' _ hu => by simp at hu⟩

theorem order1 {w2 w3 : World} {wh : Int} {u : Value} {xs : List Value} (hb : Below ((w2.alloc (.cells #[] 33)).drew).heap.size ((w2.alloc (.cells #[] 33)).drew) w3) (ho : w3.ownsRow ((w2.alloc (.cells #[] 33)).drew).heap.size 3 1 u 2 xs) : Fin w2 (w3.alloc (.cells #[.int .i64 2, .int .i64 2, .int .i64 wh, .slice (some ⟨w2.heap.size, 0, none⟩) 0 0] 54)) w3.heap.size w2.heap.size wh u xs := by
  have b1 : Below w2.heap.size w2 w3 := below_tr (below_al (Below.refl _ _) (.cells #[] 33)).drew hb
  refine ⟨below_al b1 _, b1.size, Blk.new _ _ _, ?_, ?_⟩
  · exact (app.owns_below (made0 w2 (Nat.le_refl _)) (below_tr (below_dr (Below.refl _ _)) hb)).alloc _
  · exact mono (ho.alloc _) (by simp)
theorem order2 {w2 w3 : World} {wh : Int} {u : Value} {xs : List Value} (hb : Below (((w2.alloc (.cells #[] 33)).alloc (.cells #[.int .i64 0, .int .i64 0, .int .i64 0, .slice none 0 0] 54)).drew).heap.size (((w2.alloc (.cells #[] 33)).alloc (.cells #[.int .i64 0, .int .i64 0, .int .i64 0, .slice none 0 0] 54)).drew) w3) (ho : w3.ownsRow (((w2.alloc (.cells #[] 33)).alloc (.cells #[.int .i64 0, .int .i64 0, .int .i64 0, .slice none 0 0] 54)).drew).heap.size 3 1 u 2 xs) : Fin w2 (fill w3 (w2.heap.size + 1) w2.heap.size wh) (w2.heap.size + 1) w2.heap.size wh u xs := by
  have b1 : Below w2.heap.size w2 w3 := below_tr (below_al (below_al (Below.refl _ _) (.cells #[] 33)) (.cells #[.int .i64 0, .int .i64 0, .int .i64 0, .slice none 0 0] 54)).drew hb
  have k1 : Blk w3 (w2.heap.size + 1) 54 #[.int .i64 0, .int .i64 0, .int .i64 0, .slice none 0 0] := by
    have := (Blk.new (w2.alloc (.cells #[] 33)) 54 #[.int .i64 0, .int .i64 0, .int .i64 0, .slice none 0 0]).below (below_tr (below_dr (Below.refl _ _)) hb)
    simpa using this
  refine ⟨fill_below _ _ b1 (by omega), by omega, fill_same _ _ k1, ?_, ?_⟩
  · exact fill_owns _ _ (app.owns_below ((made0 w2 (Nat.le_refl _)).alloc (.cells #[.int .i64 0, .int .i64 0, .int .i64 0, .slice none 0 0] 54)) (below_tr (below_dr (Below.refl _ _)) hb)) k1 (by decide)
  · exact mono (fill_owns _ _ ho k1 (by decide)) (by simp; omega)
theorem order3 {w2 w3 : World} {wh : Int} {u : Value} {xs : List Value} (hb : Below (w2.drew).heap.size (w2.drew) w3) (ho : w3.ownsRow (w2.drew).heap.size 3 1 u 2 xs) : Fin w2 ((w3.alloc (.cells #[] 33)).alloc (.cells #[.int .i64 2, .int .i64 2, .int .i64 wh, .slice (some ⟨w3.heap.size, 0, none⟩) 0 0] 54)) (w3.heap.size + 1) w3.heap.size wh u xs := by
  have b1 : Below w2.heap.size w2 w3 := below_tr (below_dr (Below.refl _ _)) hb
  have hz := b1.size
  refine ⟨below_al (below_al b1 _) _, by omega, ?_, ?_, ?_⟩
  · have := Blk.new (w3.alloc (.cells #[] 33)) 54 #[.int .i64 2, .int .i64 2, .int .i64 wh, .slice (some ⟨w3.heap.size, 0, none⟩) 0 0]
    simpa using this
  · exact (made0 w3 hz).alloc _
  · exact (ho.alloc _).alloc _
theorem order4 {w2 w3 : World} {wh : Int} {u : Value} {xs : List Value} (hb : Below (w2.drew).heap.size (w2.drew) w3) (ho : w3.ownsRow (w2.drew).heap.size 3 1 u 2 xs) : Fin w2 ((w3.alloc (.cells #[.int .i64 2, .int .i64 2, .int .i64 wh, .slice (some ⟨(w3.heap.size + 1), 0, none⟩) 0 0] 54)).alloc (.cells #[] 33)) w3.heap.size (w3.heap.size + 1) wh u xs := by
  have b1 : Below w2.heap.size w2 w3 := below_tr (below_dr (Below.refl _ _)) hb
  have hz := b1.size
  refine ⟨below_al (below_al b1 _) _, by omega, (Blk.new _ _ _).alloc _, ?_, ?_⟩
  · have := made0 (w3.alloc (.cells #[.int .i64 2, .int .i64 2, .int .i64 wh, .slice (some ⟨(w3.heap.size + 1), 0, none⟩) 0 0] 54)) (base := w2.heap.size) (by simp; omega)
    simpa using this
  · exact (ho.alloc _).alloc _
theorem order5 {w2 w3 : World} {wh : Int} {u : Value} {xs : List Value} (hb : Below (((w2.alloc (.cells #[.int .i64 0, .int .i64 0, .int .i64 0, .slice none 0 0] 54)).alloc (.cells #[] 33)).drew).heap.size (((w2.alloc (.cells #[.int .i64 0, .int .i64 0, .int .i64 0, .slice none 0 0] 54)).alloc (.cells #[] 33)).drew) w3) (ho : w3.ownsRow (((w2.alloc (.cells #[.int .i64 0, .int .i64 0, .int .i64 0, .slice none 0 0] 54)).alloc (.cells #[] 33)).drew).heap.size 3 1 u 2 xs) : Fin w2 (fill w3 w2.heap.size (w2.heap.size + 1) wh) w2.heap.size (w2.heap.size + 1) wh u xs := by
  have b1 : Below w2.heap.size w2 w3 := below_tr (below_al (below_al (Below.refl _ _) (.cells #[.int .i64 0, .int .i64 0, .int .i64 0, .slice none 0 0] 54)) (.cells #[] 33)).drew hb
  have k1 : Blk w3 w2.heap.size 54 #[.int .i64 0, .int .i64 0, .int .i64 0, .slice none 0 0] := ((Blk.new w2 54 #[.int .i64 0, .int .i64 0, .int .i64 0, .slice none 0 0]).alloc (.cells #[] 33)).below (below_tr (below_dr (Below.refl _ _)) hb)
  refine ⟨fill_below _ _ b1 (by omega), by omega, fill_same _ _ k1, ?_, ?_⟩
  · have h0 := made0 (w2.alloc (.cells #[.int .i64 0, .int .i64 0, .int .i64 0, .slice none 0 0] 54)) (base := w2.heap.size) (by simp)
    have h1 := app.owns_below h0 (below_tr (below_dr (Below.refl _ _)) hb)
    have h2 := fill_owns (w2.heap.size + 1) wh h1 k1 (by decide)
    simpa using h2
  · exact mono (fill_owns _ _ ho k1 (by decide)) (by simp; omega)
theorem order6 {w2 w3 : World} {wh : Int} {u : Value} {xs : List Value} (hb : Below ((w2.alloc (.cells #[.int .i64 0, .int .i64 0, .int .i64 0, .slice none 0 0] 54)).drew).heap.size ((w2.alloc (.cells #[.int .i64 0, .int .i64 0, .int .i64 0, .slice none 0 0] 54)).drew) w3) (ho : w3.ownsRow ((w2.alloc (.cells #[.int .i64 0, .int .i64 0, .int .i64 0, .slice none 0 0] 54)).drew).heap.size 3 1 u 2 xs) : Fin w2 ((fill w3 w2.heap.size w3.heap.size wh).alloc (.cells #[] 33)) w2.heap.size w3.heap.size wh u xs := by
  have b1 : Below w2.heap.size w2 w3 := below_tr (below_al (Below.refl _ _) (.cells #[.int .i64 0, .int .i64 0, .int .i64 0, .slice none 0 0] 54)).drew hb
  have hz := b1.size
  have k1 : Blk w3 w2.heap.size 54 #[.int .i64 0, .int .i64 0, .int .i64 0, .slice none 0 0] := (Blk.new w2 54 #[.int .i64 0, .int .i64 0, .int .i64 0, .slice none 0 0]).below (below_tr (below_dr (Below.refl _ _)) hb)
  refine ⟨below_al (fill_below _ _ b1 (by omega)) _, by omega, (fill_same _ _ k1).alloc _, ?_, ?_⟩
  · have := made0 (fill w3 w2.heap.size w3.heap.size wh) (base := w2.heap.size) (by rw [fill_size]; omega)
    simpa [fill_size] using this
  · exact mono ((fill_owns _ _ ho k1 (by decide)).alloc _) (by simp)
end Go.Proofs.Ytomofmmecpdalaa.tpn
