/- JoinScenes of the model. -/
import Derived.Test.YtiigfhigmdjooaaJsp
import Derived.Test.YtiigfhigmdjooaaOwnz
import Derived.Deep.DeepCutAuto
namespace Go.Proofs.Ytiigfhigmdjooaa.jsm
open Go.RowKit Go.Deep Go.Proofs.Ytiigfhigmdjooaa.base
open Go.Proofs.Ytiigfhigmdjooaa.ints (infoInt infoInts)
open Go.Proofs.Ytiigfhigmdjooaa.rws (total len_le_total)
open Go.Proofs.Ytiigfhigmdjooaa.scm
open Go.Proofs.Ytiigfhigmdjooaa.lst
open Go.Proofs.Ytiigfhigmdjooaa.fle
open Go.Proofs.Ytiigfhigmdjooaa.jsp
open Go.Proofs.Ytiigfhigmdjooaa.flf (bB_dr bB_tr og_nil)

/-- a Scene's two slices, all that they reach in the blocks from B on -/
structure GL (w : World) (B : Nat) (v : Value) (ws : List Int) (u : Value) (xss : List (List Int)) : Prop where
  ints : Ints w v ws
  gei : ∀ p, In v p → B ≤ p.block
  rows : ∃ vals : List Value, Sl w u vals ∧ vals.length = xss.length ∧ (∀ r (h : r < xss.length), ∃ q, vals[r]? = some q ∧ Ints w q xss[r]) ∧ ∀ q ∈ vals, ∀ p, In q p → B ≤ p.block
  geo : ∀ p, In u p → B ≤ p.block
theorem GL.view {w : World} {B : Nat} {v u : Value} {ws : List Int} {xss : List (List Int)} (h : GL w B v ws u xss) : scene.GV w v ws u xss := by
  obtain ⟨vals, h1, h2, h3, _⟩ := h.rows
  exact ⟨h.ints, vals, h1, h2, h3⟩
theorem GL.mono {w : World} {B B' : Nat} {v u : Value} {ws : List Int} {xss : List (List Int)} (h : GL w B v ws u xss) (hB : B' ≤ B) : GL w B' v ws u xss := by
  obtain ⟨vals, h1, h2, h3, h4⟩ := h.rows
  exact ⟨h.ints, fun p hp => Nat.le_trans hB (h.gei p hp), ⟨vals, h1, h2, h3, fun q hq p hp => Nat.le_trans hB (h4 q hq p hp)⟩, fun p hp => Nat.le_trans hB (h.geo p hp)⟩
theorem GL.low {w w' : World} {B : Nat} {v u : Value} {ws : List Int} {xss : List (List Int)} (h : GL w B v ws u xss) (hw : Wrote (fun p => p.block < B) w w') : GL w' B v ws u xss := by
  obtain ⟨vals, h1, h2, h3, h4⟩ := h.rows
  refine ⟨Sl.wrote h.ints hw (fun p hp (hs : p.block < B) => by have := h.gei p hp; omega), h.gei, ⟨vals, Sl.wrote h1 hw (fun p hp (hs : p.block < B) => by have := h.geo p hp; omega), h2, fun r hr => ?_, h4⟩, h.geo⟩
  obtain ⟨q, hq, hi⟩ := h3 r hr
  exact ⟨q, hq, Sl.wrote hi hw (fun p hp (hs : p.block < B) => by have := h4 q (List.mem_of_getElem? hq) p hp; omega)⟩
theorem GL.below {w w' : World} {B : Nat} {v u : Value} {ws : List Int} {xss : List (List Int)} (h : GL w B v ws u xss) (hb : Below w.heap.size w w') : GL w' B v ws u xss := by
  obtain ⟨vals, h1, h2, h3, h4⟩ := h.rows
  exact ⟨h.ints.below hb, h.gei, ⟨vals, h1.below hb, h2, fun r hr => by obtain ⟨q, hq, hi⟩ := h3 r hr; exact ⟨q, hq, hi.below hb⟩, h4⟩, h.geo⟩
theorem GL.nil (w : World) (B : Nat) : GL w B (.slice none 0 0) [] (.slice none 0 0) [] :=
  ⟨Ints.nil w, fun p hp => absurd hp (not_in_nil p _ _), ⟨[], Sl.nil w, rfl, fun r h => absurd h (Nat.not_lt_zero _), fun q hq => by simp at hq⟩, fun p hp => absurd hp (not_in_nil p _ _)⟩

theorem step_any {P : Program} {ops : Array Oper} {o : Oper} {a : Act} {w : World} {K : Act → World → Prop} {Q : Exit → Act → World → Prop} {E : Prop}
    (hg : o.guard = none) (s x : Operand) (t : TypeId) (hop : o.op = Op.call { callee := Callee.builtin Builtin.append, args := #[s, x], argTypes := #[t, t] })
    (e : TypeId) (i : TypeInfo) (z : Value) (bytes : Nat) (h1 : P.underlying t = some (.slice e)) (h2 : P.info? e = some i) (h3 : i.zero = some z) (h4 : i.size = 1) (h5 : i.bytes = bytes) (h6 : z.cells.size = 1)
    (b : World) (hb : Below b.heap.size b w) (B : Nat) (hbB : b.heap.size ≤ B) (v : Value) (n : Nat) (olds : List Value) (hown : w.ownsRow B e 1 v n olds) (hs : a.eval s = v)
    (xv : Value) (news : List Value) (hx : a.eval x = xv) (hsl : Sl w xv news) (h1c : ∀ u ∈ news, u.oneCell' = true)
    (b1 : n + news.length ≤ maxLen) (b2 : (n + news.length) * bytes ≤ 140737488355328) (hB : B ≤ w.heap.size)
    (hK : ∀ v' w', w'.ownsRow B e 1 v' (n + news.length) (olds ++ news) → w.grownBy w' v.ownBlock → Below b.heap.size b w' → (∀ {k : Nat} {t' : TypeId} {cs : Array Value}, t' ≠ e → Blk w k t' cs → Blk w' k t' cs) → K (a.put o.dst v') w') :
    if Region.wanted o (yielded ops a.tmps) = true then Oper.wp P o a w K Q else E := by
  have hw : Region.wanted o (yielded ops a.tmps) = true := by simp [Region.wanted, hg]
  rw [if_pos hw]
  obtain ⟨v', w', hrun, r1, r2⟩ := jsa.run_any (P := P) w B t o.type e i z bytes h1 h2 h3 h4 h5 h6 v n olds hown xv news hsl h1c b1 b2 hB
  have hb' : Below b.heap.size b w' := hb.grown r2 hb.size (fun j hj => Nat.le_trans hbB (hown.lt j hj).1)
  have hk : ∀ {k : Nat} {t' : TypeId} {cs : Array Value}, t' ≠ e → Blk w k t' cs → Blk w' k t' cs := by
    intro k t' cs hne hk
    refine (r2.block k hk.lt (fun q => ?_)).trans hk
    obtain ⟨c, hc⟩ := make.own_type hown q.symm
    exact hne (make.blk_type hk hc)
  unfold Oper.wp
  simp [execOp, hop, resolve, invoke, builtin, hs, hx, hrun, Result.andThen]
  exact hK v' w' r1 r2 hb' hk
theorem rows_at {w wr : World} {B m : Nat} {v : Value} {vals : List Value} {xss : List (List Int)} (h : pile.Pile w wr B m v vals xss) : ∀ r (hr : r < xss.length), ∃ u, vals[r]? = some u ∧ Ints wr u xss[r] := by
  intro r hr
  have hlen : vals.length = xss.length := by have := h.owns.1; omega
  have hu := List.getElem?_eq_getElem (l := vals) (i := r) (by omega)
  obtain ⟨_, h2⟩ := h.row r _ hu
  exact ⟨_, hu, h2.ints⟩
/-- rows that were piled up, with others' rows behind them -/
theorem join_pile {w W W2 W' : World} {B m B2 T : Nat} {v v' u2 : Value} {vals vals2 : List Value} {xss yss : List (List Int)} (hP : pile.Pile w W B m v vals xss) (hb : Below W.heap.size W W2) (h2 : OwnVals W2 B2 T u2 vals2 yss) (hB2 : W.heap.size ≤ B2) (hT : T ≤ W2.heap.size)
    {n : Nat} (ho : W'.ownsRow B 39 1 v' n (vals ++ vals2)) (hg : W2.grownBy W' v.ownBlock) :
    (∃ vs : List Value, Sl W' v' vs ∧ vs.length = (xss ++ yss).length ∧ (∀ r (h : r < (xss ++ yss).length), ∃ q, vs[r]? = some q ∧ Ints W' q (xss ++ yss)[r]) ∧ ∀ q ∈ vs, ∀ p, In q p → B ≤ p.block) ∧ ∀ p, In v' p → B ≤ p.block := by
  have hP2 := hP.keep hb
  have hlen : vals.length = xss.length := by have := hP.owns.1; omega
  have hWB : B ≤ W.heap.size := Nat.le_trans hP.ge hP.le
  have f1 : ∀ q ∈ vals, ∀ p, In q p → W'.heap[p.block]? = W2.heap[p.block]? := fun q hq p hp => by
    obtain ⟨_, h⟩ := hP2.mem hq
    refine hg.block _ (Nat.lt_of_lt_of_le (h.lt p hp) hP2.le) (fun e => ?_)
    obtain ⟨c, hc⟩ := make.own_type hP2.owns e.symm
    obtain ⟨c', f', hc'⟩ := hP2.typ q hq p hp
    exact absurd (make.blk_type hc hc') (by decide)
  have f2 : ∀ q ∈ vals2, ∀ p, In q p → W'.heap[p.block]? = W2.heap[p.block]? := fun q hq p hp => by
    have g1 := h2.ge q hq p hp
    have g2 := h2.lt q hq p hp
    refine hg.block _ (by omega) (fun e => ?_)
    have := hP.owns.lt _ e.symm
    omega
  refine ⟨⟨vals ++ vals2, app.sl_of_owns ho, by rw [List.length_append, List.length_append, hlen, h2.len], fun r hr => ?_, fun q hq p hp => ?_⟩, fun p hp => (jsa.own_in ho p hp).1⟩
  · obtain ⟨q, k1, k2⟩ := cat.joined hlen (rows_at hP2) h2.row r hr
    refine ⟨q, k1, pile.sl_heap k2 ?_⟩
    rcases List.mem_append.1 (List.mem_of_getElem? k1) with h | h
    · exact f1 q h
    · exact f2 q h
  · rcases List.mem_append.1 hq with h | h
    · obtain ⟨_, k⟩ := hP2.mem h
      exact k.ge p hp
    · have := h2.ge q h p hp; omega

theorem own_sums {w : World} {B n : Nat} {v : Value} {xs ys : List Int} (ho : w.ownsRow B 3 1 v n (i64s xs ++ i64s ys)) : OwnInts w B w.heap.size v (xs ++ ys) := by
  have hA : i64s xs ++ i64s ys = i64s (xs ++ ys) := by simp [i64s]
  rw [hA] at ho
  exact app.ints_of_owns ho
theorem apart_t {w : World} {B n g : Nat} {v : Value} {vals : List Value} {cs : Array Value} (ho : w.ownsRow B 3 1 v n vals) (hG : Blk w g 43 cs) : ∀ p, In v p → p.block ≠ g := by
  rintro p ⟨b, o, len, cap, rfl, hb, _⟩ e
  obtain ⟨c, hc⟩ := make.own_type ho (b := b) (by simp [Value.ownBlock])
  have hG' : w.heap[b]? = some (.cells cs 43 (0, 0)) := by rw [← hb, e]; exact hG
  exact absurd (make.blk_type hc hG') (by decide)
theorem meetA {b w : World} {B n : Nat} {X : Int} {v : Value} {xs ys : List Int} (ho : w.ownsRow B 3 1 v n (i64s xs ++ i64s ys)) (hbB : b.heap.size ≤ B) (hb : Below b.heap.size b w) :
    b.heap.size ≤ w.heap.size ∧ Blk (w.alloc (.cells #[.int .i64 X, .slice none 0 0, v] 43)) w.heap.size 43 #[.int .i64 X, .slice none 0 0, v] ∧ OwnInts (w.alloc (.cells #[.int .i64 X, .slice none 0 0, v] 43)) b.heap.size (w.alloc (.cells #[.int .i64 X, .slice none 0 0, v] 43)).heap.size v (xs ++ ys) ∧ (∀ p, In v p → p.block ≠ w.heap.size) ∧ Below b.heap.size b (w.alloc (.cells #[.int .i64 X, .slice none 0 0, v] 43)) := by
  have hO := own_sums ho
  exact ⟨hb.size, Blk.new _ _ _, (hO.keep (below_al (Below.refl _ _) _)).mono hbB (by simp), fun p hp e => by have := hO.lt p hp; omega, below_al hb _⟩
theorem meetB {b w : World} {B n g : Nat} {X : Int} {v : Value} {xs ys : List Int} (hG : Blk w g 43 #[.int .i64 0, .slice none 0 0, .slice none 0 0]) (ho : w.ownsRow B 3 1 v n (i64s xs ++ i64s ys)) (hbB : b.heap.size ≤ B) (hb : Below b.heap.size b w) (hg : b.heap.size ≤ g) :
    b.heap.size ≤ g ∧ Blk (set3 w g (.int .i64 X) (.slice none 0 0) v) g 43 #[.int .i64 X, .slice none 0 0, v] ∧ OwnInts (set3 w g (.int .i64 X) (.slice none 0 0) v) b.heap.size (set3 w g (.int .i64 X) (.slice none 0 0) v).heap.size v (xs ++ ys) ∧ (∀ p, In v p → p.block ≠ g) ∧ Below b.heap.size b (set3 w g (.int .i64 X) (.slice none 0 0) v) := by
  have hO := own_sums ho
  have hW := set3_wrote w g (.int .i64 X) (.slice none 0 0) v
  have hA := apart_t ho hG
  exact ⟨hg, set3_same _ _ _ hG, (pile.own_heap hO (fun p hp => hW.block _ (fun q (hq : q.block = g) e => hA p hp (by omega)))).mono hbB (by rw [hW.size]; exact Nat.le_refl _), hA, set3_below _ _ _ hg hb⟩
/-- the joined Scene, its contexts stored into its own cell -/
theorem gl_fin {w W : World} {B g : Nat} {v u : Value} {ws : List Int} {xss : List (List Int)} (hI : Ints w v ws) (hgi : ∀ p, In v p → B ≤ p.block) (hga : ∀ p, In v p → p.block ≠ g)
    (hR : (∃ vs : List Value, Sl w u vs ∧ vs.length = xss.length ∧ (∀ r (h : r < xss.length), ∃ q, vs[r]? = some q ∧ Ints w q xss[r]) ∧ ∀ q ∈ vs, ∀ p, In q p → g + 1 ≤ p.block) ∧ ∀ p, In u p → g + 1 ≤ p.block) (hBg : B ≤ g) (hW : Wrote (fun p => p.block = g) w W) : GL W B v ws u xss := by
  obtain ⟨⟨vs, h1, h2, h3, h4⟩, h5⟩ := hR
  refine ⟨Sl.wrote hI hW (fun p hp (hs : p.block = g) => hga p hp hs), hgi, ⟨vs, Sl.wrote h1 hW (fun p hp (hs : p.block = g) => by have := h5 p hp; omega), h2, fun r hr => ?_, fun q hq p hp => by have := h4 q hq p hp; omega⟩, fun p hp => by have := h5 p hp; omega⟩
  obtain ⟨q, hq, hi⟩ := h3 r hr
  exact ⟨q, hq, Sl.wrote hi hW (fun p hp (hs : p.block = g) => by have := h4 q (List.mem_of_getElem? hq) p hp; omega)⟩


set_option maxRecDepth 100000 in
set_option maxHeartbeats 8000000 in
theorem spec_any (x0 : Int) (u0 : Value) (xss0 : List (List Int)) (v0 : Value) (ws0 : List Int) (x1 : Int) (u1 : Value) (xss1 : List (List Int)) (v1 : Value) (ws1 : List Int) (w : World) (h0 : scene.GV w v0 ws0 u0 xss0) (h1 : scene.GV w v1 ws1 u1 xss1) (m0 : total xss0 ≤ 1048576) (m1 : total xss1 ≤ 1048576) :
    Calls Try.prog 27 #[.agg #[.int .i64 x0, u0, v0], .agg #[.int .i64 x1, u1, v1]] w fun e w' => ∃ v' u', e = .returned (.tuple #[.agg #[.int .i64 (joinR x0 xss0 ws0 x1 xss1 ws1).x, u', v'], .bool (joinR x0 xss0 ws0 x1 xss1 ws1).ok]) ∧ GL w' w.heap.size v' (joinR x0 xss0 ws0 x1 xss1 ws1).ws u' (joinR x0 xss0 ws0 x1 xss1 ws1).rows ∧ Below w.heap.size w w' := by
  obtain ⟨A0, cap0, rfl⟩ : ∃ A c, u0 = .slice A xss0.length c := by obtain ⟨A, b, o, cap, R, hu, _⟩ := h0.rows.form; exact ⟨A, cap, hu⟩
  obtain ⟨C0, cip0, rfl⟩ : ∃ A c, v0 = .slice A ws0.length c := by obtain ⟨A, c, hv, _⟩ := h0.ints; exact ⟨A, c, by rw [hv, len_i64s]⟩
  have H0 := Lib.hid h0
  obtain ⟨A1, cap1, rfl⟩ : ∃ A c, u1 = .slice A xss1.length c := by obtain ⟨A, b, o, cap, R, hu, _⟩ := h1.rows.form; exact ⟨A, cap, hu⟩
  obtain ⟨C1, cip1, rfl⟩ : ∃ A c, v1 = .slice A ws1.length c := by obtain ⟨A, c, hv, _⟩ := h1.ints; exact ⟨A, c, by rw [hv, len_i64s]⟩
  have H1 := Lib.hid h1
  obtain ⟨i0, hi, hz0, hz1, hz2⟩ := info_parts infoInt
  obtain ⟨s0, si, sz0, sz1, sz2⟩ := info_parts infoInts
  obtain ⟨w0, hw0⟩ : ∃ w0, (((w.alloc (.cells #[.int .i64 x0, .slice A0 xss0.length cap0, .slice C0 ws0.length cip0] 43)).alloc (.cells #[.int .i64 x1, .slice A1 xss1.length cap1, .slice C1 ws1.length cip1] 43)).alloc (.cells #[.int .i64 0, .slice none 0 0, .slice none 0 0] 43)) = w0 := ⟨_, rfl⟩
  have B0 : Hid (Below w.heap.size w w0) := Lib.hid (by rw [← hw0]; exact below_al (below_al (below_al (Below.refl _ _) _) _) _)
  have K0 : Hid (Blk w0 w.heap.size 43 #[.int .i64 x0, .slice A0 xss0.length cap0, .slice C0 ws0.length cip0]) := Lib.hid (by rw [← hw0]; exact ((Blk.new w _ _).alloc _).alloc _)
  have L0 : Hid (Blk w0 (w.heap.size + 1) 43 #[.int .i64 x1, .slice A1 xss1.length cap1, .slice C1 ws1.length cip1]) := Lib.hid (by
    have := (Blk.new (w.alloc (.cells #[.int .i64 x0, .slice A0 xss0.length cap0, .slice C0 ws0.length cip0] 43)) 43 #[.int .i64 x1, .slice A1 xss1.length cap1, .slice C1 ws1.length cip1]).alloc (.cells #[.int .i64 0, .slice none 0 0, .slice none 0 0] 43)
    rw [← hw0]
    simpa using this)
  have R0 : Hid (Blk w0 (w.heap.size + 1 + 1) 43 #[.int .i64 0, .slice none 0 0, .slice none 0 0]) := Lib.hid (by
    have := Blk.new ((w.alloc (.cells #[.int .i64 x0, .slice A0 xss0.length cap0, .slice C0 ws0.length cip0] 43)).alloc (.cells #[.int .i64 x1, .slice A1 xss1.length cap1, .slice C1 ws1.length cip1] 43)) 43 #[.int .i64 0, .slice none 0 0, .slice none 0 0]
    rw [← hw0]
    simpa using this)
  have HI := Lib.hid (scv.spec_good x0 _ xss0 _ ws0 w0 (h0.below B0.out) m0)
  have HJ := Lib.hid (fun W (hW : Below w.heap.size w W) => scv.spec_good x1 _ xss1 _ ws1 W (H1.out.below hW) m1)
  clear h0 h1
  by_cases g0 : okScene x0 xss0 ws0
  · rw [sceneB_yes g0] at HI
    by_cases g1 : okScene x1 xss1 ws1
    · have HJ' := Lib.hid (fun W hW => HJ.out W hW)
      rw [sceneB_yes g1] at HJ'
      have HG := Lib.hid (And.intro g0 g1)
      have x00 := g0.ev0; have x01 := g0.ev1; have x10 := g1.ev0; have x11 := g1.ev1
      have hx : IntKind.i64.wrap (x0 + x1) = x0 + x1 := IntWalk.i64_in _ (by omega)
      have LA := Lib.hid g0.len
      have LB := Lib.hid g1.len
      have SA : Hid (ws0.length ≤ 10) := Lib.hid (by have := g0.sums.1; have := g0.len; omega)
      have SB : Hid (ws1.length ≤ 10) := Lib.hid (by have := g1.sums.1; have := g1.len; omega)
      have HFA := Lib.hid (fun W (hW : Below w.heap.size w W) => spec_pile _ xss0 0 W (H0.out.below hW).rows g0.len (by omega) (fun r hr => (bounds g0 r hr).2))
      have HFB := Lib.hid (fun W (hW : Below w.heap.size w W) => spec_lists _ xss1 x0 W (H1.out.below hW).rows g1.len (by omega) (fun r hr => (bounds g1 r hr).2))
      have HTR := Lib.hid (total_rows g0 g1)
      clear g0 g1 HJ m0 m1
      obtain ⟨c0, c1, c2, _⟩ := scene.three_cells K0.out
      obtain ⟨d0, d1, d2, _⟩ := scene.three_cells L0.out
      go_enter Try.func27, Try.ntmps27
      go_wp2_with fail
      refine HI.out.mono ?_
      rintro e w1 ⟨rfl, hb1⟩
      have B1 := Lib.hid (below_tr B0.out hb1)
      have K1 := Lib.hid (K0.out.below hb1)
      have L1 := Lib.hid (L0.out.below hb1)
      have R1 := Lib.hid (R0.out.below hb1)
      clear c0 c1 c2 d0 d1 d2 hb1 B0 K0 L0 R0 hw0
      obtain ⟨c0, c1, c2, _⟩ := scene.three_cells K1.out
      obtain ⟨d0, d1, d2, _⟩ := scene.three_cells L1.out
      go_wp2_with fail
      refine (HJ'.out _ B1.out).mono ?_
      rintro e w2 ⟨rfl, hb2⟩
      have B2 := Lib.hid (below_tr B1.out hb2)
      have K2 := Lib.hid (K1.out.below hb2)
      have L2 := Lib.hid (L1.out.below hb2)
      have R2 := Lib.hid (R1.out.below hb2)
      clear c0 c1 c2 d0 d1 d2 hb2 B1 K1 L1 R1 HJ'
      obtain ⟨c0, c1, c2, _⟩ := scene.three_cells K2.out
      obtain ⟨d0, d1, d2, _⟩ := scene.three_cells L2.out
      have hr2 := R2.out.lt
      have HOW := Lib.hid (fun W (hW : Below w2.heap.size w2 W) => own.l1own_any _ ws0 W (H0.out.below (below_tr B2.out hW)).ints (by have := SA.out; omega))
      have HCI := Lib.hid (fun W (hW : Below w2.heap.size w2 W) => (H1.out.below (below_tr B2.out hW)).ints)
      go_upto_region 3 with fail
      go_cut [6] (fun s6 wx => ∃ (g : Nat) (sa : Option Addr) (sn sc : Nat), s6 = .pointer (some ⟨g, 0, none⟩) ∧ Hid (w2.heap.size ≤ g ∧ Blk wx g 43 #[.int .i64 (x0 + x1), .slice none 0 0, .slice sa sn sc] ∧ OwnInts wx w2.heap.size wx.heap.size (.slice sa sn sc) (ws0 ++ ws1) ∧ (∀ p, In (.slice sa sn sc) p → p.block ≠ g) ∧ Below w2.heap.size w2 wx))
      case first =>
        have b1 : ws0.length + (i64s ws1).length ≤ maxLen := by have := SA.out; have := SB.out; rw [len_i64s]; unfold maxLen; omega
        have b2 : (ws0.length + (i64s ws1).length) * 8 ≤ 140737488355328 := by have := SA.out; have := SB.out; rw [len_i64s]; omega
        go_region_held3 (fun w' => w'.cell? ⟨w.heap.size, 0, none⟩ = some (.int .i64 x0) ∧ w'.cell? ⟨w.heap.size, 1, none⟩ = some (.slice A0 xss0.length cap0) ∧ w'.cell? ⟨w.heap.size, 2, none⟩ = some (.slice C0 ws0.length cip0) ∧ w'.cell? ⟨w.heap.size + 1, 0, none⟩ = some (.int .i64 x1) ∧ w'.cell? ⟨w.heap.size + 1, 1, none⟩ = some (.slice A1 xss1.length cap1) ∧ w'.cell? ⟨w.heap.size + 1, 2, none⟩ = some (.slice C1 ws1.length cip1) ∧ Below w2.heap.size w2 w')
          ((refine held6B c0 c1 c2 d0 d1 d2 (by omega) (by omega) (by omega) (by omega) (by omega) (by omega) ?_; (repeat (first | (with_reducible exact Below.refl _ _) | (with_reducible assumption) | (with_reducible refine below_dr ?_) | (with_reducible refine below_al ?_ _) | (with_reducible refine below_tr ?_ (by assumption)) | (with_reducible refine Below.setCell ?_ (by first | (simp; done) | (simp; omega) | omega) _)))))
          (first
            | (go_at_call 78; (with_reducible refine (HOW.out _ ?_).mono ?_); (· (repeat (first | (with_reducible exact Below.refl _ _) | (with_reducible assumption) | (with_reducible refine below_dr ?_) | (with_reducible refine below_al ?_ _) | (with_reducible refine below_tr ?_ (by assumption))))); rintro e w3 ⟨r1, rfl, ho1, hq1⟩; obtain ⟨ra, rl, rc, rfl⟩ := make.shape ho1; have P1 := Lib.hid ho1; clear ho1)
            | ((refine step_any rfl (.tmp 23) (.tmp 25) 39 rfl 3 i0 (.int .i64 0) 8 Try.underlying39 hi hz0 hz1 hz2 rfl w2 ?_ _ ?_ _ _ _ (app.owns_below P1.out ?_) (by simp [Act.eval]) (.slice C1 ws1.length cip1) (i64s ws1) (by simp [Act.eval]) (HCI.out _ ?_) (jsa.one_ints ws1) b1 b2 ?_ ?_); (· (repeat (first | (with_reducible exact Below.refl _ _) | (with_reducible assumption) | (with_reducible refine below_dr ?_) | (with_reducible refine below_al ?_ _) | (with_reducible refine below_tr ?_ (by assumption))))); (· have a1 := hq1.size; first | exact Nat.le_refl _ | (simp; done) | (simp <;> omega)); (· (repeat (first | (with_reducible exact Below.refl _ _) | (with_reducible assumption) | (with_reducible refine below_dr ?_) | (with_reducible refine below_al ?_ _) | (with_reducible refine below_tr ?_ (by assumption))))); (· (repeat (first | (with_reducible exact Below.refl _ _) | (with_reducible assumption) | (with_reducible refine below_dr ?_) | (with_reducible refine below_al ?_ _) | (with_reducible refine below_tr ?_ (by assumption))))); (· have a1 := hq1.size; first | omega | (simp at a1 ⊢ <;> omega)); intro v5 w5 ho5 hg5 hb5 hk5; (obtain ⟨sa, sn, sc, rfl⟩ := make.shape ho5); have P5 := Lib.hid ho5; (first
                | (have G5 : Blk w5 w3.heap.size 43 #[.int .i64 0, .slice none 0 0, .slice none 0 0] := hk5 (by decide) (Blk.new _ _ _); have z3 : w2.heap.size ≤ w3.heap.size := (by have := hq1.size; first | (simp at this ⊢; done) | (simp at this ⊢; omega)); (obtain ⟨y0, y1, y2, _⟩ := scene.three_cells G5); have yf : ∀ k, w5.frozen? ⟨w3.heap.size, k, none⟩ = false := fun k => Joins.unfrozen_of_block G5 k; have M5 := Lib.hid (fun (hh : w2.heap.size ≤ _) => meetB (X := x0 + x1) G5 ho5 hh hb5 z3))
                | (have G5 : Blk w5 w2.heap.size 43 #[.int .i64 0, .slice none 0 0, .slice none 0 0] := hk5 (by decide) ((Blk.new w2.drew 43 #[.int .i64 0, .slice none 0 0, .slice none 0 0]).below hq1); (obtain ⟨y0, y1, y2, _⟩ := scene.three_cells G5); have yf : ∀ k, w5.frozen? ⟨w2.heap.size, k, none⟩ = false := fun k => Joins.unfrozen_of_block G5 k; have M5 := Lib.hid (fun (hh : w2.heap.size ≤ _) => meetB (X := x0 + x1) G5 ho5 hh hb5 (Nat.le_refl _)))
                | (have M5 := Lib.hid (fun (hh : w2.heap.size ≤ _) => meetA (X := x0 + x1) ho5 hh hb5))); clear hk5))
        all_goals
          go_wp2_with fail
          go_meet
          exact ⟨_, sa, sn, sc, rfl, Lib.hid (M5.out (by have a1 := hq1.size; first | exact Nat.le_refl _ | omega | (simp; done) | (simp at a1 ⊢; done) | (simp at a1 ⊢; omega)))⟩
      case rest =>
        obtain ⟨g, sa, sn, sc, rfl, HC⟩ := hcut
        obtain ⟨hg2, hG3, hO3, hA3, hb3⟩ := HC.out
        have B3 := Lib.hid (below_tr B2.out hb3)
        have G3 := Lib.hid hG3
        have O3 := Lib.hid hO3
        have A3 := Lib.hid hA3
        have K3 := Lib.hid (K2.out.below hb3)
        have L3 := Lib.hid (L2.out.below hb3)
        have R3 := Lib.hid (R2.out.below hb3)
        have hgw := hG3.lt
        have hBz : w2.heap.size ≤ wc.heap.size := by omega
        have l0 : w.heap.size < w2.heap.size := by omega
        have l1 : w.heap.size + 1 < w2.heap.size := by omega
        clear c0 c1 c2 d0 d1 d2 hG3 hO3 hA3 hb3 HC K2 L2 R2 HOW HCI
        obtain ⟨c0, c1, c2, _⟩ := scene.three_cells K3.out
        obtain ⟨d0, d1, d2, _⟩ := scene.three_cells L3.out
        have HFA' := Lib.hid (fun W (hW : Below wc.heap.size wc W) => HFA.out W (below_tr B3.out hW))
        have HFB' := Lib.hid (fun W (hW : Below wc.heap.size wc W) => HFB.out W (below_tr B3.out hW))
        clear HFA HFB
        have b1 : ∀ {a b : Nat}, a ≤ 10 → b ≤ 10 → a + b ≤ maxLen := fun h1 h2 => by unfold maxLen; omega
        have b2 : ∀ {a b : Nat}, a ≤ 10 → b ≤ 10 → (a + b) * 24 ≤ 140737488355328 := fun h1 h2 => by omega
        go_upto_region 4 with fail
        go_region_held3 (fun w' => w'.cell? ⟨w.heap.size, 0, none⟩ = some (.int .i64 x0) ∧ w'.cell? ⟨w.heap.size, 1, none⟩ = some (.slice A0 xss0.length cap0) ∧ w'.cell? ⟨w.heap.size, 2, none⟩ = some (.slice C0 ws0.length cip0) ∧ w'.cell? ⟨w.heap.size + 1, 0, none⟩ = some (.int .i64 x1) ∧ w'.cell? ⟨w.heap.size + 1, 1, none⟩ = some (.slice A1 xss1.length cap1) ∧ w'.cell? ⟨w.heap.size + 1, 2, none⟩ = some (.slice C1 ws1.length cip1) ∧ Below w2.heap.size wc w')
          ((refine held6B c0 c1 c2 d0 d1 d2 l0 l0 l0 l1 l1 l1 ?_; (repeat (first | (with_reducible exact Below.refl _ _) | (with_reducible assumption) | (with_reducible refine Below.setCell ?_ (by first | (simp; done) | (simp; omega) | omega) _) | (with_reducible refine bB_dr ?_) | (with_reducible refine bB_al hBz ?_ _) | (with_reducible refine bB_tr hBz ?_ (by assumption))))))
          (first
            | (go_at_call 79; (with_reducible refine (HFA'.out _ ?_).mono ?_); (· (repeat (first | (with_reducible exact Below.refl _ _) | (with_reducible assumption) | (with_reducible refine below_dr ?_) | (with_reducible refine below_al ?_ _) | (with_reducible refine below_tr ?_ (by assumption))))); rintro e w4 ⟨u4, ps, rfl, hP4⟩; (obtain ⟨ya, yn, yc, rfl⟩ := make.shape hP4.owns); have hq4 := hP4.below; have P4 := Lib.hid hP4; clear hP4)
            | (go_at_call 79; (with_reducible refine (HFB'.out _ ?_).mono ?_); (· (repeat (first | (with_reducible exact Below.refl _ _) | (with_reducible assumption) | (with_reducible refine below_dr ?_) | (with_reducible refine below_al ?_ _) | (with_reducible refine below_tr ?_ (by assumption))))); rintro e w5 ⟨u5, rfl, ⟨qs, hv5⟩, hq5⟩; (obtain ⟨za, zn, zc, rfl⟩ := hv5.rows.shape); have P5 := Lib.hid hv5; clear hv5)
            | ((refine step_any rfl (.tmp 30) (.tmp 35) 22 rfl 39 s0 (.slice none 0 0) 24 Try.underlying22 si sz0 sz1 sz2 rfl wc ?_ _ ?_ _ _ _ (app.owns_below P4.out.owns ?_) (by simp [Act.eval]) (.slice za zn zc) qs (by simp [Act.eval]) (P5.out.keep ?_).outer (jsa.one_rows P5.out.len P5.out.row) (b1 (by rw [len_lists]; exact LA.out) (by rw [P5.out.len, len_lists]; exact LB.out)) (b2 (by rw [len_lists]; exact LA.out) (by rw [P5.out.len, len_lists]; exact LB.out)) ?_ ?_); (· (repeat (first | (with_reducible exact Below.refl _ _) | (with_reducible assumption) | (with_reducible refine below_dr ?_) | (with_reducible refine below_al ?_ _) | (with_reducible refine below_tr ?_ (by assumption))))); (· first | exact Nat.le_refl _ | (simp; done)); (· (repeat (first | (with_reducible exact Below.refl _ _) | (with_reducible assumption) | (with_reducible refine below_dr ?_) | (with_reducible refine below_al ?_ _) | (with_reducible refine below_tr ?_ (by assumption))))); (· (repeat (first | (with_reducible exact Below.refl _ _) | (with_reducible assumption) | (with_reducible refine below_dr ?_) | (with_reducible refine below_al ?_ _) | (with_reducible refine below_tr ?_ (by assumption))))); (· have a1 := hq4.size; have a2 := hq5.size; first | omega | (simp at a1 a2 ⊢; omega)); intro v6 w6 ho6 hg6 hb6 hk6; (obtain ⟨ra, rn, rc, rfl⟩ := make.shape ho6); have G6 : Hid (Blk w6 g 43 #[.int .i64 (x0 + x1), .slice none 0 0, .slice sa sn sc]) := Lib.hid (hk6 (by decide) (G3.out.below (by (repeat (first | (with_reducible exact Below.refl _ _) | (with_reducible assumption) | (with_reducible refine below_dr ?_) | (with_reducible refine below_al ?_ _) | (with_reducible refine below_tr ?_ (by assumption))))))); have J6 := Lib.hid (join_pile P4.out (by (repeat (first | (with_reducible exact Below.refl _ _) | (with_reducible assumption) | (with_reducible refine below_dr ?_) | (with_reducible refine below_al ?_ _) | (with_reducible refine below_tr ?_ (by assumption))))) (P5.out.keep (by (repeat (first | (with_reducible exact Below.refl _ _) | (with_reducible assumption) | (with_reducible refine below_dr ?_) | (with_reducible refine below_al ?_ _) | (with_reducible refine below_tr ?_ (by assumption)))))) (by have a1 := hq4.size; have a2 := hq5.size; first | exact Nat.le_refl _ | omega | (simp; done)) (by have a2 := hq5.size; first | exact Nat.le_refl _ | omega | (simp; done)) ho6 hg6); have B6 := Lib.hid hb6; have hbz6 := hb6.mono hBz; (obtain ⟨y0, y1, y2, _⟩ := scene.three_cells G6.out); have yf : ∀ k, w6.frozen? ⟨g, k, none⟩ = false := fun k => Joins.unfrozen_of_block G6.out k; clear hk6 hg6 ho6 hb6))
        all_goals
          have WR := Wrote.setCell (S := fun p => p.block = g) (p := ⟨g, 1, none⟩) (Wrote.refl _ w6) rfl (.slice ra rn rc)
          have GL7 : Hid (GL (w6.setCell ⟨g, 1, none⟩ (.slice ra rn rc)) w2.heap.size (.slice sa sn sc) (ws0 ++ ws1) (.slice ra rn rc) (rows x0 xss0 xss1)) := Lib.hid (gl_fin (O3.out.keep B6.out).ints (fun p hp => O3.out.ge p hp) A3.out (by
            obtain ⟨⟨vs, k1, k2, k3, k4⟩, k5⟩ := J6.out
            exact ⟨⟨vs, k1, k2, k3, fun q hq p hp => by have := k4 q hq p hp; have := hgw; first | omega | (simp at *; omega)⟩, fun p hp => by have := k5 p hp; first | omega | (simp at *; omega)⟩) hg2 WR)
          have B7 := Lib.hid ((below_tr B3.out B6.out).setCell (p := ⟨g, 1, none⟩) (show w.heap.size ≤ g by omega) (.slice ra rn rc))
          have G7 : Hid (Blk (w6.setCell ⟨g, 1, none⟩ (.slice ra rn rc)) g 43 #[.int .i64 (x0 + x1), .slice ra rn rc, .slice sa sn sc]) := Lib.hid (by
            have := Joins.block_setCell (i := 1) G6.out (.slice ra rn rc)
            unfold Blk
            simpa using this)
          have R7 : Hid (Blk (w6.setCell ⟨g, 1, none⟩ (.slice ra rn rc)) (w.heap.size + 1 + 1) 43 #[.int .i64 0, .slice none 0 0, .slice none 0 0]) := Lib.hid ((R3.out.below B6.out).wrote WR (fun p (hp : p.block = g) e => by omega))
          clear WR y0 y1 y2 yf J6 c0 c1 c2 d0 d1 d2 hbz6
          generalize w6.setCell ⟨g, 1, none⟩ (.slice ra rn rc) = w7 at *
          obtain ⟨y0, y1, y2, _⟩ := scene.three_cells G7.out
          go_wp2_with fail
          refine (scv.spec_good (x0 + x1) _ (rows x0 xss0 xss1) _ (ws0 ++ ws1) _ GL7.out.view HTR.out).mono ?_
          rintro e w8 ⟨rfl, hb8⟩
          have GL8 := Lib.hid (GL7.out.below hb8)
          have B8 := Lib.hid (below_tr B7.out hb8)
          have R8 := Lib.hid (R7.out.below hb8)
          clear y0 y1 y2
          obtain ⟨y0, y1, y2, _⟩ := scene.three_cells (G7.out.below hb8)
          obtain ⟨r0, r1, r2, _⟩ := scene.three_cells R8.out
          have rf : ∀ k, w8.frozen? ⟨w.heap.size + 1 + 1, k, none⟩ = false := fun k => Joins.unfrozen_of_block R8.out k
          have z8 := R8.out.lt
          clear hb8
          by_cases hk : okScene (x0 + x1) (rows x0 xss0 xss1) (ws0 ++ ws1)
          · rw [sceneB_yes hk]
            have HK := Lib.hid hk
            clear hk
            go_wp2_with fail
            refine bodyPost_ret (v := .tuple #[.agg #[.int .i64 (x0 + x1), .slice ra rn rc, .slice sa sn sc], .bool true]) (by simp [results, Try.results27, go_sem, r0, r1, r2]) rfl ?_
            rw [join_yes HG.out.1 HG.out.2 HK.out]
            refine ⟨_, _, rfl, (GL8.out.low ?_).mono (by omega), ?_⟩
            · repeat (first | (with_reducible exact Wrote.refl _ _) | (with_reducible refine Wrote.setCell ?_ (by first | (simp; done) | (simp; omega) | omega) _))
            · repeat (first | (with_reducible exact B8.out) | (with_reducible refine Below.setCell ?_ (by first | (simp; done) | (simp; omega) | omega) _))
          · rw [sceneB_no hk]
            have HN := Lib.hid (join_no (x0 := x0) (x1 := x1) (xss0 := xss0) (xss1 := xss1) (ws0 := ws0) (ws1 := ws1) (fun h => hk h.2.2))
            clear hk
            go_wp2_with fail
            refine bodyPost_ret (v := .tuple #[.agg #[.int .i64 0, .slice none 0 0, .slice none 0 0], .bool false]) (by simp [results, Try.results27, go_sem, r0, r1, r2]) rfl ?_
            rw [HN.out]
            refine ⟨_, _, rfl, GL.nil _ _, ?_⟩
            repeat (first | (with_reducible exact B8.out) | (with_reducible refine Below.setCell ?_ (by first | (simp; done) | (simp; omega) | omega) _))
    · have HJ' := Lib.hid (fun W hW => HJ.out W hW)
      rw [sceneB_no g1] at HJ'
      rw [join_no (fun h => g1 h.2.1)]
      clear g0 g1 HJ m0 m1
      unfold none_
      obtain ⟨c0, c1, c2, _⟩ := scene.three_cells K0.out
      obtain ⟨d0, d1, d2, _⟩ := scene.three_cells L0.out
      go_enter Try.func27, Try.ntmps27
      go_wp2_with fail
      refine HI.out.mono ?_
      rintro e w1 ⟨rfl, hb1⟩
      have B1 := Lib.hid (below_tr B0.out hb1)
      have L1 := Lib.hid (L0.out.below hb1)
      have R1 := Lib.hid (R0.out.below hb1)
      clear c0 c1 c2 d0 d1 d2 hb1 B0 K0 L0 R0 hw0
      obtain ⟨d0, d1, d2, _⟩ := scene.three_cells L1.out
      go_wp2_with fail
      refine (HJ'.out _ B1.out).mono ?_
      rintro e w2 ⟨rfl, hb2⟩
      have B2 := Lib.hid (below_tr B1.out hb2)
      have R2 := Lib.hid (R1.out.below hb2)
      clear d0 d1 d2 hb2 B1 L1 R1 HJ'
      obtain ⟨r0, r1, r2, _⟩ := scene.three_cells R2.out
      have rf : ∀ k, w2.frozen? ⟨w.heap.size + 1 + 1, k, none⟩ = false := fun k => Joins.unfrozen_of_block R2.out k
      have hr2 := R2.out.lt
      go_wp2_with fail
      refine bodyPost_ret (v := .tuple #[.agg #[.int .i64 0, .slice none 0 0, .slice none 0 0], .bool false]) (by simp [results, Try.results27, go_sem, r0, r1, r2]) rfl ⟨_, _, rfl, GL.nil _ _, ?_⟩
      repeat (first | (with_reducible exact B2.out) | (with_reducible refine Below.setCell ?_ (by first | (simp; done) | (simp; omega) | omega) _))
  · rw [sceneB_no g0] at HI
    rw [join_no (fun h => g0 h.1)]
    clear g0 HJ m0 m1
    unfold none_
    obtain ⟨c0, c1, c2, _⟩ := scene.three_cells K0.out
    go_enter Try.func27, Try.ntmps27
    go_wp2_with fail
    refine HI.out.mono ?_
    rintro e w2 ⟨rfl, hb2⟩
    have B2 := Lib.hid (below_tr B0.out hb2)
    have R2 := Lib.hid (R0.out.below hb2)
    clear c0 c1 c2 hb2 B0 K0 L0 R0 hw0
    obtain ⟨r0, r1, r2, _⟩ := scene.three_cells R2.out
    have rf : ∀ k, w2.frozen? ⟨w.heap.size + 1 + 1, k, none⟩ = false := fun k => Joins.unfrozen_of_block R2.out k
    have hr2 := R2.out.lt
    go_wp2_with fail
    refine bodyPost_ret (v := .tuple #[.agg #[.int .i64 0, .slice none 0 0, .slice none 0 0], .bool false]) (by simp [results, Try.results27, go_sem, r0, r1, r2]) rfl ⟨_, _, rfl, GL.nil _ _, ?_⟩
    repeat (first | (with_reducible exact B2.out) | (with_reducible refine Below.setCell ?_ (by first | (simp; done) | (simp; omega) | omega) _))


end Go.Proofs.Ytiigfhigmdjooaa.jsm
