/- JoinScenes of the program. -/
import Derived.Test.YtiigfhigmdjooaaJsa
import Derived.Test.YtiigfhigmdjooaaFlf
namespace Go.Proofs.Ytiigfhigmdjooaa.jsp
open Go.RowKit Go.Deep Go.Proofs.Ytiigfhigmdjooaa.base
open Go.Proofs.Ytiigfhigmdjooaa.rws (total len_le_total)
open Go.Proofs.Ytiigfhigmdjooaa.scm
open Go.Proofs.Ytiigfhigmdjooaa.lst
open Go.Proofs.Ytiigfhigmdjooaa.fle
open Go.Proofs.Ytiigfhigmdjooaa.flf (bB_dr bB_tr og_nil)

/-- the contexts of a joined Scene -/
def rows (x0 : Int) (xss0 xss1 : List (List Int)) : List (List Int) := lists 0 xss0 ++ lists x0 xss1
open Classical in
noncomputable def joinR (x0 : Int) (xss0 : List (List Int)) (ws0 : List Int) (x1 : Int) (xss1 : List (List Int)) (ws1 : List Int) : Res :=
  if okScene x0 xss0 ws0 ∧ okScene x1 xss1 ws1 ∧ okScene (x0 + x1) (rows x0 xss0 xss1) (ws0 ++ ws1) then ⟨x0 + x1, rows x0 xss0 xss1, ws0 ++ ws1, true⟩ else none_
theorem join_yes {x0 x1 : Int} {xss0 xss1 : List (List Int)} {ws0 ws1 : List Int} (h0 : okScene x0 xss0 ws0) (h1 : okScene x1 xss1 ws1) (h : okScene (x0 + x1) (rows x0 xss0 xss1) (ws0 ++ ws1)) : joinR x0 xss0 ws0 x1 xss1 ws1 = ⟨x0 + x1, rows x0 xss0 xss1, ws0 ++ ws1, true⟩ := if_pos ⟨h0, h1, h⟩
theorem join_no {x0 x1 : Int} {xss0 xss1 : List (List Int)} {ws0 ws1 : List Int} (h : ¬ (okScene x0 xss0 ws0 ∧ okScene x1 xss1 ws1 ∧ okScene (x0 + x1) (rows x0 xss0 xss1) (ws0 ++ ws1))) : joinR x0 xss0 ws0 x1 xss1 ws1 = none_ := if_neg h
theorem tot_join {x0 x1 : Int} {xss0 xss1 : List (List Int)} {ws0 ws1 : List Int} : total (joinR x0 xss0 ws0 x1 xss1 ws1).rows ≤ 1048576 := by
  by_cases h : okScene x0 xss0 ws0 ∧ okScene x1 xss1 ws1 ∧ okScene (x0 + x1) (rows x0 xss0 xss1) (ws0 ++ ws1)
  · rw [join_yes h.1 h.2.1 h.2.2]; exact total_ok h.2.2
  · rw [join_no h]; decide
theorem len_join {x0 x1 : Int} {xss0 xss1 : List (List Int)} {ws0 ws1 : List Int} : (joinR x0 xss0 ws0 x1 xss1 ws1).ws.length ≤ 1048576 := by
  by_cases h : okScene x0 xss0 ws0 ∧ okScene x1 xss1 ws1 ∧ okScene (x0 + x1) (rows x0 xss0 xss1) (ws0 ++ ws1)
  · rw [join_yes h.1 h.2.1 h.2.2]
    show (ws0 ++ ws1).length ≤ _
    have := h.2.2.sums.1; have := h.2.2.len; omega
  · rw [join_no h]; decide
theorem len_rows {x0 : Int} {xss0 xss1 : List (List Int)} : (rows x0 xss0 xss1).length = xss0.length + xss1.length := by
  unfold rows; rw [List.length_append, len_lists, len_lists]
/-- two Scenes' contexts have at most 240 numbers -/
theorem total_rows {x0 x1 : Int} {xss0 xss1 : List (List Int)} {ws0 ws1 : List Int} (h0 : okScene x0 xss0 ws0) (h1 : okScene x1 xss1 ws1) : total (rows x0 xss0 xss1) ≤ 1048576 := by
  have hl : (rows x0 xss0 xss1).length ≤ 20 := by rw [len_rows]; have := h0.len; have := h1.len; omega
  have sh : ∀ (d : Int) (l : List Int), (shift d l).length = l.length := fun d l => by simp [shift]
  have hr : ∀ r ∈ rows x0 xss0 xss1, r.length ≤ 12 := by
    intro r hr
    unfold rows lists at hr
    rcases List.mem_append.1 hr with h | h
    · obtain ⟨q, hq, rfl⟩ := List.mem_map.1 h
      obtain ⟨k, hk, rfl⟩ := List.mem_iff_getElem.1 hq
      rw [sh]; exact h0.ctx_len hk
    · obtain ⟨q, hq, rfl⟩ := List.mem_map.1 h
      obtain ⟨k, hk, rfl⟩ := List.mem_iff_getElem.1 hq
      rw [sh]; exact h1.ctx_len hk
  have hs : ∀ (l : List (List Int)) (_ : ∀ r ∈ l, r.length ≤ 12), (l.map List.length).sum ≤ 12 * l.length := by
    intro l
    induction l with
    | nil => intro _; simp
    | cons a l ih =>
      intro h
      have h1 := h a (by simp)
      have h2 := ih (fun r hr => h r (by simp [hr]))
      simp only [List.map_cons, List.sum_cons, List.length_cons]
      omega
  have := hs _ hr
  unfold total
  omega
theorem below_keep {w w' : World} {B T : Nat} {v : Value} {vals : List Value} {xss : List (List Int)} (h : OwnVals w B T v vals xss) (hb : Below w.heap.size w w') : OwnVals w' B T v vals xss := h.keep hb
theorem bB_al {w1 w : World} {B : Nat} (hB : B ≤ w1.heap.size) (h : Below B w1 w) (o : Obj) : Below B w1 (w.alloc o) := bB_tr hB h (below_al (Below.refl _ _) o)
theorem cell_new {W W0 : World} {t : TypeId} {x y : Value} {g : Nat} (hb : Below (W0.alloc (.cells #[x, y] t)).heap.size (W0.alloc (.cells #[x, y] t)) W) (hg : g = W0.heap.size) : W.cell? ⟨g, 0, none⟩ = some x ∧ W.cell? ⟨g, 1, none⟩ = some y := by
  subst hg
  have h := (Blk.new W0 t #[x, y]).below hb
  unfold Blk at h
  exact ⟨by simp [World.cell?, h], by simp [World.cell?, h]⟩
theorem held6B {w1 w' : World} {B : Nat} {p1 p2 p3 p4 p5 p6 : Addr} {u1 u2 u3 u4 u5 u6 : Value} (h1 : w1.cell? p1 = some u1) (h2 : w1.cell? p2 = some u2) (h3 : w1.cell? p3 = some u3) (h4 : w1.cell? p4 = some u4) (h5 : w1.cell? p5 = some u5) (h6 : w1.cell? p6 = some u6)
    (l1 : p1.block < B) (l2 : p2.block < B) (l3 : p3.block < B) (l4 : p4.block < B) (l5 : p5.block < B) (l6 : p6.block < B) (hb : Below B w1 w') :
    w'.cell? p1 = some u1 ∧ w'.cell? p2 = some u2 ∧ w'.cell? p3 = some u3 ∧ w'.cell? p4 = some u4 ∧ w'.cell? p5 = some u5 ∧ w'.cell? p6 = some u6 ∧ Below B w1 w' := by
  have k : ∀ {p : Addr} {u : Value}, w1.cell? p = some u → p.block < B → w'.cell? p = some u := fun h l => (pile.cell_heap (hb.block _ l)).trans h
  exact ⟨k h1 l1, k h2 l2, k h3 l3, k h4 l4, k h5 l5, k h6 l6, hb⟩

theorem fin {w W : World} {B : Nat} {x0 x1 X : Int} {xss0 xss1 : List (List Int)} {ws0 ws1 : List Int} {ua va ra sa : Option Addr} {un uc vn vc rn rc sn sc : Nat} (g : okScene x0 xss0 ws0 ∧ okScene x1 xss1 ws1)
    (hX : (sceneB (x0 + x1) (rows x0 xss0 xss1) (ws0 ++ ws1) = true → X = x0 + x1 ∧ Value.slice ua un uc = .slice ra rn rc ∧ Value.slice va vn vc = .slice sa sn sc) ∧ (sceneB (x0 + x1) (rows x0 xss0 xss1) (ws0 ++ ws1) = false → X = 0 ∧ Value.slice ua un uc = .slice none 0 0 ∧ Value.slice va vn vc = .slice none 0 0))
    (hF : scene.OG W B W.heap.size (.slice sa sn sc) (ws0 ++ ws1) (.slice ra rn rc) (rows x0 xss0 xss1)) (hb : Below w.heap.size w W) (hB : w.heap.size ≤ B) :
    ∃ v' u', Ending.returned (.tuple #[.agg #[.int .i64 X, .slice ua un uc, .slice va vn vc], .bool (sceneB (x0 + x1) (rows x0 xss0 xss1) (ws0 ++ ws1))]) = .returned (.tuple #[.agg #[.int .i64 (joinR x0 xss0 ws0 x1 xss1 ws1).x, u', v'], .bool (joinR x0 xss0 ws0 x1 xss1 ws1).ok]) ∧ scene.OG W w.heap.size W.heap.size v' (joinR x0 xss0 ws0 x1 xss1 ws1).ws u' (joinR x0 xss0 ws0 x1 xss1 ws1).rows ∧ Below w.heap.size w W := by
  by_cases h : okScene (x0 + x1) (rows x0 xss0 xss1) (ws0 ++ ws1)
  · rw [sceneB_yes h] at hX ⊢
    rw [join_yes g.1 g.2 h]
    obtain ⟨rfl, e1, e2⟩ := hX.1 rfl
    rw [e1, e2]
    exact ⟨_, _, rfl, hF.mono hB (Nat.le_refl _), hb⟩
  · rw [sceneB_no h] at hX ⊢
    rw [join_no (fun k => h k.2.2)]
    obtain ⟨rfl, e1, e2⟩ := hX.2 rfl
    rw [e1, e2]
    exact ⟨_, _, rfl, og_nil _ _ _ hb.size, hb⟩


theorem concat_rows {W : World} {va vb : Value} {B1 M1 B2 M2 g : Nat} {ass bss : List (List Int)} {ps qs : List Value} (P1 : OwnVals W B1 M1 va ps ass) (P2 : OwnVals W B2 M2 vb qs bss) (hB : B1 ≤ M1) (hM : M1 ≤ B2) (hW : M1 ≤ W.heap.size) (hT : M2 ≤ W.heap.size)
    (la : ass.length ≤ 10) (lb : bss.length ≤ 10) (hce : W.cell? ⟨g, 0, none⟩ = some va ∧ W.cell? ⟨g, 1, none⟩ = some vb) (c : Nat) :
    Calls Try.prog 83 #[.slice (some ⟨g, 0, none⟩) 2 c] W fun e w' => ∃ ra rn rc, e = .returned (.slice ra rn rc) ∧ OwnRows w' B1 w'.heap.size (.slice ra rn rc) (ass ++ bss) ∧ Below W.heap.size W w' := by
  obtain ⟨e0, e1⟩ := hce
  refine (jsa.concat_r g c va vb ps qs W e0 e1 P1.outer P2.outer (by have := P1.len; omega) (by have := P2.len; omega) (jsa.one_rows P1.len P1.row) (jsa.one_rows P2.len P2.row)).mono ?_
  rintro e w' ⟨u, rfl, hC⟩
  have hO := jsa.join_own P1 P2 hB hW hM hT hC.below hC.owns
  obtain ⟨ra, rn, rc, rfl⟩ := hO.rows.shape
  exact ⟨ra, rn, rc, rfl, hO, hC.below⟩
theorem concat_ints {W : World} {va vb : Value} {g : Nat} {xs ys : List Int} (h : Ints W va xs ∧ Ints W vb ys) (la : xs.length ≤ 10) (lb : ys.length ≤ 10)
    (hce : W.cell? ⟨g, 0, none⟩ = some va ∧ W.cell? ⟨g, 1, none⟩ = some vb) (c : Nat) :
    Calls Try.prog 85 #[.slice (some ⟨g, 0, none⟩) 2 c] W fun e w' => ∃ ra rn rc, e = .returned (.slice ra rn rc) ∧ OwnInts w' W.heap.size w'.heap.size (.slice ra rn rc) (xs ++ ys) ∧ Below W.heap.size W w' := by
  obtain ⟨e0, e1⟩ := hce
  refine (jsa.concat_i g c va vb _ _ W e0 e1 h.1 h.2 (by rw [len_i64s]; exact la) (by rw [len_i64s]; exact lb) (jsa.one_ints xs) (jsa.one_ints ys)).mono ?_
  rintro e w' ⟨u, rfl, hC⟩
  have hA : i64s xs ++ i64s ys = i64s (xs ++ ys) := by simp [i64s]
  have hown := hC.owns
  rw [hA] at hown
  have hO := app.ints_of_owns hown
  obtain ⟨ra, rn, rc, rfl⟩ := hO.ints.shape
  exact ⟨ra, rn, rc, rfl, hO, hC.below⟩

set_option maxHeartbeats 2000000 in
/-- validScene, its answer as three slices that are those or nothing -/
theorem valid2 (x : Int) (u : Value) (xss : List (List Int)) (v : Value) (ws : List Int) (w : World) (h : scene.GV w v ws u xss) (hm : total xss ≤ 1048576) :
    Calls Try.prog 82 #[.agg #[.int .i64 x, u, v]] w fun e w' => ∃ (X : Int) (ua : Option Addr) (un uc : Nat) (va : Option Addr) (vn vc : Nat), e = .returned (.tuple #[.agg #[.int .i64 X, .slice ua un uc, .slice va vn vc], .bool (sceneB x xss ws)]) ∧ Hid ((sceneB x xss ws = true → X = x ∧ .slice ua un uc = u ∧ .slice va vn vc = v) ∧ (sceneB x xss ws = false → X = 0 ∧ Value.slice ua un uc = .slice none 0 0 ∧ Value.slice va vn vc = .slice none 0 0)) ∧ Below w.heap.size w w' := by
  obtain ⟨va, vn, vc, ua, un, uc, rfl, rfl⟩ := h.shape
  refine (jsa.valid x _ xss _ ws w h hm).mono ?_
  rintro e w' ⟨rfl, hb⟩
  cases sceneB x xss ws with
  | true => exact ⟨x, ua, un, uc, va, vn, vc, by simp, Lib.hid ⟨fun _ => ⟨rfl, rfl, rfl⟩, fun h => by cases h⟩, hb⟩
  | false => exact ⟨0, none, 0, 0, none, 0, 0, by simp, Lib.hid ⟨fun h => (by cases h), fun _ => ⟨rfl, rfl, rfl⟩⟩, hb⟩

set_option maxRecDepth 100000 in
set_option maxHeartbeats 8000000 in
theorem impl_any (x0 : Int) (u0 : Value) (xss0 : List (List Int)) (v0 : Value) (ws0 : List Int) (x1 : Int) (u1 : Value) (xss1 : List (List Int)) (v1 : Value) (ws1 : List Int) (w : World) (h0 : scene.GV w v0 ws0 u0 xss0) (h1 : scene.GV w v1 ws1 u1 xss1) (m0 : total xss0 ≤ 1048576) (m1 : total xss1 ≤ 1048576) :
    Calls Try.prog 29 #[.agg #[.int .i64 x0, u0, v0], .agg #[.int .i64 x1, u1, v1]] w fun e w' => ∃ v' u', e = .returned (.tuple #[.agg #[.int .i64 (joinR x0 xss0 ws0 x1 xss1 ws1).x, u', v'], .bool (joinR x0 xss0 ws0 x1 xss1 ws1).ok]) ∧ scene.OG w' w.heap.size w'.heap.size v' (joinR x0 xss0 ws0 x1 xss1 ws1).ws u' (joinR x0 xss0 ws0 x1 xss1 ws1).rows ∧ Below w.heap.size w w' := by
  obtain ⟨A0, cap0, rfl⟩ : ∃ A c, u0 = .slice A xss0.length c := by obtain ⟨A, b, o, cap, R, hu, _⟩ := h0.rows.form; exact ⟨A, cap, hu⟩
  obtain ⟨C0, cip0, rfl⟩ : ∃ A c, v0 = .slice A ws0.length c := by obtain ⟨A, c, hv, _⟩ := h0.ints; exact ⟨A, c, by rw [hv, len_i64s]⟩
  have H0 := Lib.hid h0
  obtain ⟨A1, cap1, rfl⟩ : ∃ A c, u1 = .slice A xss1.length c := by obtain ⟨A, b, o, cap, R, hu, _⟩ := h1.rows.form; exact ⟨A, cap, hu⟩
  obtain ⟨C1, cip1, rfl⟩ : ∃ A c, v1 = .slice A ws1.length c := by obtain ⟨A, c, hv, _⟩ := h1.ints; exact ⟨A, c, by rw [hv, len_i64s]⟩
  have H1 := Lib.hid h1
  obtain ⟨w0, hw0⟩ : ∃ w0, (((w.alloc (.cells #[.int .i64 x0, .slice A0 xss0.length cap0, .slice C0 ws0.length cip0] 43)).alloc (.cells #[.int .i64 x1, .slice A1 xss1.length cap1, .slice C1 ws1.length cip1] 43)).alloc (.cells #[.int .i64 0, .slice none 0 0, .slice none 0 0] 43)) = w0 := ⟨_, rfl⟩
  have B0 : Hid (Below w.heap.size w w0) := Lib.hid (by rw [← hw0]; exact below_al (below_al (below_al (Below.refl _ _) _) _) _)
  have K0 : Hid (Blk w0 w.heap.size 43 #[.int .i64 x0, .slice A0 xss0.length cap0, .slice C0 ws0.length cip0]) := Lib.hid (by rw [← hw0]; exact ((Blk.new w _ _).alloc _).alloc _)
  have L0 : Hid (Blk w0 (w.heap.size + 1) 43 #[.int .i64 x1, .slice A1 xss1.length cap1, .slice C1 ws1.length cip1]) := Lib.hid (by
    have := (Blk.new (w.alloc (.cells #[.int .i64 x0, .slice A0 xss0.length cap0, .slice C0 ws0.length cip0] 43)) 43 #[.int .i64 x1, .slice A1 xss1.length cap1, .slice C1 ws1.length cip1]).alloc (.cells #[.int .i64 0, .slice none 0 0, .slice none 0 0] 43)
    rw [← hw0]
    simpa using this)
  have R0 : Hid (Blk w0 (w.heap.size + 1 + 1) 43 #[.int .i64 0, .slice none 0 0, .slice none 0 0]) := Lib.hid (by
    have := Blk.new ((w.alloc (.cells #[.int .i64 x0, .slice A0 xss0.length cap0, .slice C0 ws0.length cip0] 43)).alloc (.cells #[.int .i64 x1, .slice A1 xss1.length cap1, .slice C1 ws1.length cip1] 43)) 43 #[.int .i64 0, .slice none 0 0, .slice none 0 0]
    rw [← hw0]
    simpa using this)
  have HI := Lib.hid (scv.impl_scene x0 _ xss0 _ ws0 w0 (h0.below B0.out) m0)
  have HJ := Lib.hid (fun W (hW : Below w.heap.size w W) => scv.impl_scene x1 _ xss1 _ ws1 W (H1.out.below hW) m1)
  clear h0 h1
  by_cases g0 : okScene x0 xss0 ws0
  · rw [sceneB_yes g0] at HI
    by_cases g1 : okScene x1 xss1 ws1
    · have HJ' := Lib.hid (fun W hW => HJ.out W hW)
      rw [sceneB_yes g1] at HJ'
      have HG := Lib.hid (And.intro g0 g1)
      have x00 := g0.ev0; have x01 := g0.ev1; have x10 := g1.ev0; have x11 := g1.ev1
      have hx : IntKind.i64.wrap (x0 + x1) = x0 + x1 := IntWalk.i64_in _ (by omega)
      have LA := Lib.hid g0.len
      have LB := Lib.hid g1.len
      have SA : Hid (ws0.length ≤ 10) := Lib.hid (by have := g0.sums.1; have := g0.len; omega)
      have SB : Hid (ws1.length ≤ 10) := Lib.hid (by have := g1.sums.1; have := g1.len; omega)
      have HFA := Lib.hid (fun W (hW : Below w.heap.size w W) => impl_from x0 _ xss0 _ ws0 0 W (H0.out.below hW) g0.len (by omega) (bounds g0))
      have HFB := Lib.hid (fun W (hW : Below w.heap.size w W) => impl_from x1 _ xss1 _ ws1 x0 W (H1.out.below hW) g1.len (by omega) (bounds g1))
      have HTR := Lib.hid (total_rows g0 g1)
      clear g0 g1 HJ m0 m1
      obtain ⟨c0, c1, c2, _⟩ := scene.three_cells K0.out
      obtain ⟨d0, d1, d2, _⟩ := scene.three_cells L0.out
      go_enter Try.func29, Try.ntmps29
      go_wp2_with fail
      refine HI.out.mono ?_
      rintro e w1 ⟨rfl, hb1⟩
      have B1 := Lib.hid (below_tr B0.out hb1)
      have K1 := Lib.hid (K0.out.below hb1)
      have L1 := Lib.hid (L0.out.below hb1)
      have R1 := Lib.hid (R0.out.below hb1)
      clear c0 c1 c2 d0 d1 d2 hb1 B0 K0 L0 R0 hw0
      obtain ⟨c0, c1, c2, _⟩ := scene.three_cells K1.out
      obtain ⟨d0, d1, d2, _⟩ := scene.three_cells L1.out
      go_wp2_with fail
      refine (HJ'.out _ B1.out).mono ?_
      rintro e w2 ⟨rfl, hb2⟩
      have B2 := Lib.hid (below_tr B1.out hb2)
      have K2 := Lib.hid (K1.out.below hb2)
      have L2 := Lib.hid (L1.out.below hb2)
      have R2 := Lib.hid (R1.out.below hb2)
      clear c0 c1 c2 d0 d1 d2 hb2 B1 K1 L1 R1 HJ'
      obtain ⟨c0, c1, c2, _⟩ := scene.three_cells K2.out
      obtain ⟨d0, d1, d2, _⟩ := scene.three_cells L2.out
      have hr2 := R2.out.lt
      have hBz : w.heap.size + 1 + 1 ≤ w2.heap.size := by omega
      have l0 : w.heap.size < w.heap.size + 1 + 1 := by omega
      have l1 : w.heap.size + 1 < w.heap.size + 1 + 1 := by omega
      have HFA' := Lib.hid (fun W (hW : Below w2.heap.size w2 W) => HFA.out W (below_tr B2.out hW))
      have HFB' := Lib.hid (fun W (hW : Below w2.heap.size w2 W) => HFB.out W (below_tr B2.out hW))
      have HCI := Lib.hid (fun W (hW : Below w2.heap.size w2 W) => And.intro (H0.out.below (below_tr B2.out hW)).ints (H1.out.below (below_tr B2.out hW)).ints)
      clear HFA HFB
      go_upto_region 3 with fail
      go_region_held3 (fun w' => w'.cell? ⟨w.heap.size, 0, none⟩ = some (.int .i64 x0) ∧ w'.cell? ⟨w.heap.size, 1, none⟩ = some (.slice A0 xss0.length cap0) ∧ w'.cell? ⟨w.heap.size, 2, none⟩ = some (.slice C0 ws0.length cip0) ∧ w'.cell? ⟨w.heap.size + 1, 0, none⟩ = some (.int .i64 x1) ∧ w'.cell? ⟨w.heap.size + 1, 1, none⟩ = some (.slice A1 xss1.length cap1) ∧ w'.cell? ⟨w.heap.size + 1, 2, none⟩ = some (.slice C1 ws1.length cip1) ∧ Below (w.heap.size + 1 + 1) w2 w')
        ((refine held6B c0 c1 c2 d0 d1 d2 l0 l0 l0 l1 l1 l1 ?_; (repeat (first | (with_reducible exact Below.refl _ _) | (with_reducible assumption) | (with_reducible refine Below.setCell ?_ (by first | (simp; done) | (simp; omega) | omega) _) | (with_reducible refine bB_dr ?_) | (with_reducible refine bB_al hBz ?_ _) | (with_reducible refine bB_tr hBz ?_ (by assumption))))))
        (first
          | (go_at_call 84; (with_reducible refine (HFA'.out _ ?_).mono ?_); (repeat (first | (with_reducible exact Below.refl _ _) | (with_reducible refine below_dr ?_) | (with_reducible refine below_al ?_ _) | (with_reducible refine below_tr ?_ (by assumption)))); rintro e w3 ⟨ua, rfl, ⟨ps, hv1⟩, hq1⟩; (obtain ⟨ya, yn, yc, rfl⟩ := hv1.rows.shape); have P1 := Lib.hid hv1; clear hv1)
          | (go_at_call 84; (with_reducible refine (HFB'.out _ ?_).mono ?_); (repeat (first | (with_reducible exact Below.refl _ _) | (with_reducible refine below_dr ?_) | (with_reducible refine below_al ?_ _) | (with_reducible refine below_tr ?_ (by assumption)))); rintro e w4 ⟨ub, rfl, ⟨qs, hv2⟩, hq2⟩; (obtain ⟨za, zn, zc, rfl⟩ := hv2.rows.shape); have P2 := Lib.hid hv2; clear hv2)
          | (go_at_call 83; (with_reducible refine (concat_rows (P1.out.keep ?_) (P2.out.keep ?_) ?_ ?_ ?_ ?_ ?_ ?_ ?_ _).mono ?_); (· (repeat (first | (with_reducible exact Below.refl _ _) | (with_reducible refine below_dr ?_) | (with_reducible refine below_al ?_ _) | (with_reducible refine below_tr ?_ (by assumption))))); (· (repeat (first | (with_reducible exact Below.refl _ _) | (with_reducible refine below_dr ?_) | (with_reducible refine below_al ?_ _) | (with_reducible refine below_tr ?_ (by assumption))))); (· (have a1 := hq1.size; have a2 := hq2.size; first | exact Nat.le_refl _ | omega | (simp at a1 a2 ⊢ <;> omega) | (simp <;> omega))); (· (have a1 := hq1.size; have a2 := hq2.size; first | exact Nat.le_refl _ | omega | (simp at a1 a2 ⊢ <;> omega) | (simp <;> omega))); (· (have a1 := hq1.size; have a2 := hq2.size; first | exact Nat.le_refl _ | omega | (simp at a1 a2 ⊢ <;> omega) | (simp <;> omega))); (· (have a1 := hq1.size; have a2 := hq2.size; first | exact Nat.le_refl _ | omega | (simp at a1 a2 ⊢ <;> omega) | (simp <;> omega))); (· rw [len_lists]; exact LA.out); (· rw [len_lists]; exact LB.out); (· exact cell_new (t := 22) (by (repeat (first | (with_reducible exact Below.refl _ _) | (with_reducible refine below_dr ?_) | (with_reducible refine below_al ?_ _) | (with_reducible refine below_tr ?_ (by assumption))))) (by first | rfl | (simp; done))); rintro e w5 ⟨ra, rn, rc, rfl, hO5, hq3⟩; have P5 : Hid (OwnRows w5 _ w5.heap.size (.slice ra rn rc) (rows x0 xss0 xss1)) := Lib.hid hO5; clear hO5)
          | (go_at_call 85; (with_reducible refine (concat_ints (HCI.out _ ?_) SA.out SB.out ?_ _).mono ?_); (· (repeat (first | (with_reducible exact Below.refl _ _) | (with_reducible refine below_dr ?_) | (with_reducible refine below_al ?_ _) | (with_reducible refine below_tr ?_ (by assumption))))); (· exact cell_new (t := 39) (by (repeat (first | (with_reducible exact Below.refl _ _) | (with_reducible refine below_dr ?_) | (with_reducible refine below_al ?_ _) | (with_reducible refine below_tr ?_ (by assumption))))) (by first | rfl | (simp; done))); rintro e w6 ⟨sa, sn, sc, rfl, hO6, hq4⟩; have P6 := Lib.hid hO6; clear hO6)
          | (go_at_call 82; (with_reducible refine (valid2 (x0 + x1) _ (rows x0 xss0 xss1) _ (ws0 ++ ws1) _ ⟨(P6.out.keep ?_).ints, (P5.out.keep ?_).rows⟩ HTR.out).mono ?_); (· (repeat (first | (with_reducible exact Below.refl _ _) | (with_reducible refine below_dr ?_) | (with_reducible refine below_al ?_ _) | (with_reducible refine below_tr ?_ (by assumption))))); (· (repeat (first | (with_reducible exact Below.refl _ _) | (with_reducible refine below_dr ?_) | (with_reducible refine below_al ?_ _) | (with_reducible refine below_tr ?_ (by assumption))))); rintro e w7 ⟨X, ua, un, uc, va, vn, vc, rfl, hX, hq5⟩; have B7 : Hid (Below w2.heap.size w2 w7) := Lib.hid (by (repeat (first | (with_reducible exact Below.refl _ _) | (with_reducible refine below_dr ?_) | (with_reducible refine below_al ?_ _) | (with_reducible refine below_tr ?_ (by assumption))))); have F7 : Hid (scene.OG w7 w2.heap.size w7.heap.size (.slice sa sn sc) (ws0 ++ ws1) (.slice ra rn rc) (rows x0 xss0 xss1)) := Lib.hid ⟨w5.heap.size, (by have a1 := hq1.size; have a2 := hq2.size; have a3 := hq3.size; have a4 := hq4.size; have a5 := hq5.size; first | omega | (simp at a1 a2 a3 a4 a5 ⊢ <;> omega)), (by have a1 := hq1.size; have a2 := hq2.size; have a3 := hq3.size; have a4 := hq4.size; have a5 := hq5.size; first | omega | (simp at a1 a2 a3 a4 a5 ⊢ <;> omega)), .inr ⟨(P5.out.keep (by (repeat (first | (with_reducible exact Below.refl _ _) | (with_reducible refine below_dr ?_) | (with_reducible refine below_al ?_ _) | (with_reducible refine below_tr ?_ (by assumption)))))).mono (by have a1 := hq1.size; have a2 := hq2.size; have a3 := hq3.size; have a4 := hq4.size; have a5 := hq5.size; first | omega | (simp at a1 a2 a3 a4 a5 ⊢ <;> omega)) (Nat.le_refl _), (P6.out.keep (by (repeat (first | (with_reducible exact Below.refl _ _) | (with_reducible refine below_dr ?_) | (with_reducible refine below_al ?_ _) | (with_reducible refine below_tr ?_ (by assumption)))))).mono (by have a1 := hq1.size; have a2 := hq2.size; have a3 := hq3.size; have a4 := hq4.size; have a5 := hq5.size; first | omega | (simp at a1 a2 a3 a4 a5 ⊢ <;> omega)) (by have a1 := hq1.size; have a2 := hq2.size; have a3 := hq3.size; have a4 := hq4.size; have a5 := hq5.size; first | omega | (simp at a1 a2 a3 a4 a5 ⊢ <;> omega))⟩⟩; have R7 := Lib.hid (R2.out.below B7.out); (obtain ⟨q0, q1, q2, q3⟩ := scene.three_cells R7.out); have rf7 : ∀ k, w7.frozen? ⟨w.heap.size + 1 + 1, k, none⟩ = false := fun k => Joins.unfrozen_of_block R7.out k))
      all_goals
        have hw2 := B2.out.size
        have WR := set3_wrote w7 (w.heap.size + 1 + 1) (.int .i64 X) (.slice ua un uc) (.slice va vn vc)
        have F8 := Lib.hid (F7.out.wrote WR (fun p (hp : p.block = w.heap.size + 1 + 1) => by omega))
        have B8 := Lib.hid (set3_below (.int .i64 X) (.slice ua un uc) (.slice va vn vc) (by omega : w.heap.size ≤ w.heap.size + 1 + 1) (below_tr B2.out B7.out))
        have hsz8 : (set3 w7 (w.heap.size + 1 + 1) (.int .i64 X) (.slice ua un uc) (.slice va vn vc)).heap.size = w7.heap.size := WR.size
        have K8 := set3_same (.int .i64 X) (.slice ua un uc) (.slice va vn vc) R7.out
        rw [← hsz8] at F8
        obtain ⟨y0, y1, y2, _⟩ := scene.three_cells K8
        have WX : set3 w7 (w.heap.size + 1 + 1) (.int .i64 X) (.slice ua un uc) (.slice va vn vc) = ((w7.setCell ⟨w.heap.size + 1 + 1, 0, none⟩ (.int .i64 X)).setCell ⟨w.heap.size + 1 + 1, 1, none⟩ (.slice ua un uc)).setCell ⟨w.heap.size + 1 + 1, 2, none⟩ (.slice va vn vc) := rfl
        rw [← WX]
        have FIN := Lib.hid (fin HG.out hX.out F8.out B8.out hw2)
        clear WR K8 q0 q1 q2 q3 c0 c1 c2 d0 d1 d2 hX hsz8
        generalize set3 w7 (w.heap.size + 1 + 1) (.int .i64 X) (.slice ua un uc) (.slice va vn vc) = w8 at *
        clear WX
        go_wp2_with fail
        exact bodyPost_ret (v := .tuple #[.agg #[.int .i64 X, .slice ua un uc, .slice va vn vc], .bool (sceneB (x0 + x1) (rows x0 xss0 xss1) (ws0 ++ ws1))]) (by simp [results, Try.results29, go_sem, y0, y1, y2]) rfl FIN.out
    · have HJ' := Lib.hid (fun W hW => HJ.out W hW)
      rw [sceneB_no g1] at HJ'
      rw [join_no (fun h => g1 h.2.1)]
      clear g0 g1 HJ m0 m1
      unfold none_
      obtain ⟨c0, c1, c2, _⟩ := scene.three_cells K0.out
      obtain ⟨d0, d1, d2, _⟩ := scene.three_cells L0.out
      go_enter Try.func29, Try.ntmps29
      go_wp2_with fail
      refine HI.out.mono ?_
      rintro e w1 ⟨rfl, hb1⟩
      have B1 := Lib.hid (below_tr B0.out hb1)
      have L1 := Lib.hid (L0.out.below hb1)
      have R1 := Lib.hid (R0.out.below hb1)
      clear c0 c1 c2 d0 d1 d2 hb1 B0 K0 L0 R0 hw0
      obtain ⟨d0, d1, d2, _⟩ := scene.three_cells L1.out
      go_wp2_with fail
      refine (HJ'.out _ B1.out).mono ?_
      rintro e w2 ⟨rfl, hb2⟩
      have B2 := Lib.hid (below_tr B1.out hb2)
      have R2 := Lib.hid (R1.out.below hb2)
      clear d0 d1 d2 hb2 B1 L1 R1 HJ'
      obtain ⟨r0, r1, r2, _⟩ := scene.three_cells R2.out
      have rf : ∀ k, w2.frozen? ⟨w.heap.size + 1 + 1, k, none⟩ = false := fun k => Joins.unfrozen_of_block R2.out k
      have hr2 := R2.out.lt
      go_wp2_with fail
      refine bodyPost_ret (v := .tuple #[.agg #[.int .i64 0, .slice none 0 0, .slice none 0 0], .bool false]) (by simp [results, Try.results29, go_sem, r0, r1, r2]) rfl ⟨_, _, rfl, og_nil _ _ _ (by first | exact B2.out.size | (have := B2.out.size; simp [World.setCell]; omega)), ?_⟩
      repeat (first | (with_reducible exact B2.out) | (with_reducible refine Below.setCell ?_ (by first | (simp; done) | (simp; omega) | omega) _))
  · rw [sceneB_no g0] at HI
    rw [join_no (fun h => g0 h.1)]
    clear g0 HJ m0 m1
    unfold none_
    obtain ⟨c0, c1, c2, _⟩ := scene.three_cells K0.out
    go_enter Try.func29, Try.ntmps29
    go_wp2_with fail
    refine HI.out.mono ?_
    rintro e w2 ⟨rfl, hb2⟩
    have B2 := Lib.hid (below_tr B0.out hb2)
    have R2 := Lib.hid (R0.out.below hb2)
    clear c0 c1 c2 hb2 B0 K0 L0 R0 hw0
    obtain ⟨r0, r1, r2, _⟩ := scene.three_cells R2.out
    have rf : ∀ k, w2.frozen? ⟨w.heap.size + 1 + 1, k, none⟩ = false := fun k => Joins.unfrozen_of_block R2.out k
    have hr2 := R2.out.lt
    go_wp2_with fail
    refine bodyPost_ret (v := .tuple #[.agg #[.int .i64 0, .slice none 0 0, .slice none 0 0], .bool false]) (by simp [results, Try.results29, go_sem, r0, r1, r2]) rfl ⟨_, _, rfl, og_nil _ _ _ (by first | exact B2.out.size | (have := B2.out.size; simp [World.setCell]; omega)), ?_⟩
    repeat (first | (with_reducible exact B2.out) | (with_reducible refine Below.setCell ?_ (by first | (simp; done) | (simp; omega) | omega) _))


end Go.Proofs.Ytiigfhigmdjooaa.jsp
