/- l4Ask of the model. -/
import Derived.Test.YtimfnhejiiagmaaAskq
import Derived.Test.YtimfnhejiiagmaaStepw
import Derived.Test.YtimfnhejiiagmaaOwnz
import Derived.BigQuiet
namespace Go.Proofs.Ytimfnhejiiagmaa.gask
open Go.RowKit Go.Deep Go.Proofs.Ytimfnhejiiagmaa.base
open Go.Proofs.Ytimfnhejiiagmaa.ints (ret_int infoInt infoInts)
open Go.Proofs.Ytimfnhejiiagmaa.gval (okGame)
open Go.Proofs.Ytimfnhejiiagmaa.row (nn at_)
open Go.Proofs.Ytimfnhejiiagmaa.gwon (wt)
open Go.Proofs.Ytimfnhejiiagmaa.pile (Pile)

theorem owns_block {w w' : World} {B e z n : Nat} {v : Value} {xs : List Value} (h : w.ownsRow B e z v n xs) (k : ∀ b, v.ownBlock = some b → w'.heap[b]? = w.heap[b]?) : w'.ownsRow B e z v n xs := by
  rcases h with ⟨h1, h2 | ⟨g, cap, cur, rfl, hb, hh, h⟩⟩
  · exact ⟨h1, .inl h2⟩
  · exact ⟨h1, .inr ⟨g, cap, cur, rfl, hb, (k g rfl).trans hh, h⟩⟩
/-- a heap of rows stands where its blocks do -/
theorem pile_move {WB W W2 : World} {B m : Nat} {v : Value} {vals : List Value} {xss : List (List Int)} (h : Pile WB W B m v vals xss) (hb : Below WB.heap.size WB W2) (hs : W.heap.size ≤ W2.heap.size)
    (hv : ∀ b, v.ownBlock = some b → W2.heap[b]? = W.heap[b]?) (hr : ∀ u ∈ vals, ∀ p, In u p → W2.heap[p.block]? = W.heap[p.block]?) : Pile WB W2 B m v vals xss :=
  ⟨hb, h.base, owns_block h.owns hv, fun r u hu => by
    obtain ⟨h1, h2⟩ := h.row r u hu
    exact ⟨h1, pile.own_heap h2 (hr u (List.mem_of_getElem? hu))⟩, fun u hu p hp => by
    obtain ⟨c, f, hc⟩ := h.typ u hu p hp
    exact ⟨c, f, (hr u hu p hp).trans hc⟩, h.each, h.ge, Nat.le_trans h.le hs⟩

/-- the model's new game under way -/
structure AskM (WB wr : World) (qg : Nat) (X Y : Int) (wv : Value) (xs : List Int) (v : Value) (vals : List Value) (xss : List (List Int)) : Prop where
  pile : Pile WB wr WB.heap.size wr.heap.size v vals xss
  bge : WB.heap.size ≤ qg
  blk : Blk wr qg 40 #[.int .i64 X, .int .i64 Y, wv, v]
  own : wr.ownsRow WB.heap.size 3 1 wv xs.length (i64s xs)
  sep : ∀ u ∈ vals, ∀ p, In u p → wv.ownBlock ≠ some p.block
theorem AskM.keep {WB wr W : World} {qg : Nat} {X Y : Int} {wv v : Value} {xs : List Int} {vals : List Value} {xss : List (List Int)} (h : AskM WB wr qg X Y wv xs v vals xss) (hb : Below wr.heap.size wr W) : AskM WB W qg X Y wv xs v vals xss :=
  ⟨(h.pile.keep hb).fresh, h.bge, h.blk.below hb, app.owns_below h.own hb, h.sep⟩
theorem AskM.row_lt {WB wr : World} {qg : Nat} {X Y : Int} {wv v : Value} {xs : List Int} {vals : List Value} {xss : List (List Int)} (h : AskM WB wr qg X Y wv xs v vals xss) : ∀ u ∈ vals, ∀ p, In u p → p.block < wr.heap.size ∧ p.block ≠ qg := fun u hu p hp => by
  obtain ⟨xs', h2⟩ := h.pile.mem hu
  refine ⟨h2.lt p hp, fun e => ?_⟩
  obtain ⟨c, f, hc⟩ := h.pile.typ u hu p hp
  rw [e] at hc
  exact absurd (make.blk_type hc h.blk) (by decide)
/-- a weight more -/
theorem AskM.growW {WB wr W : World} {qg : Nat} {X Y x : Int} {wv wv' v : Value} {xs : List Int} {vals : List Value} {xss : List (List Int)} (h : AskM WB wr qg X Y wv xs v vals xss)
    (ho : W.ownsRow WB.heap.size 3 1 wv' (xs.length + 1) (i64s xs ++ [.int .i64 x])) (hg : wr.grownBy W wv.ownBlock) (hl : wv'.ownBlock = wv.ownBlock ∨ wv'.ownBlock = some wr.heap.size) :
    AskM WB (W.setCell ⟨qg, 2, none⟩ wv') qg X Y wv' (xs ++ [x]) v vals xss ∧ Blk W qg 40 #[.int .i64 X, .int .i64 Y, wv, v] := by
  have hB : Blk W qg 40 #[.int .i64 X, .int .i64 Y, wv, v] := (hg.block _ h.blk.lt (fun e => gway.apart_blk h.own h.blk (by decide) e.symm)).trans h.blk
  have hqv := gway.apart_blk h.pile.owns h.blk (by decide)
  have hbw : Below WB.heap.size WB W := h.pile.below.grown hg h.pile.below.size (fun j hj => (h.own.lt j hj).1)
  refine ⟨⟨(pile_move h.pile (hbw.setCell h.bge _) (by simpa [World.setCell] using hg.size) (fun b hb => ?_) (fun u hu p hp => ?_)).fresh, h.bge, ?_, ?_, fun u hu p hp => ?_⟩, hB⟩
  · have h1 : b ≠ qg := fun e => hqv (by rw [hb, e])
    have h2 : some b ≠ wv.ownBlock := fun e => by
      obtain ⟨c, hc⟩ := make.own_type h.own e.symm
      obtain ⟨c', hc'⟩ := make.own_type h.pile.owns hb
      exact absurd (make.blk_type hc hc') (by decide)
    exact (blk_setCell_other _ _ _ _ h1).trans (hg.block _ (h.pile.owns.lt b hb).2 h2)
  · obtain ⟨h1, h2⟩ := h.row_lt u hu p hp
    exact (blk_setCell_other _ _ _ _ h2).trans (hg.block _ h1 (fun e => h.sep u hu p hp e.symm))
  · have := Joins.block_setCell (i := 2) hB wv'
    unfold Blk
    simpa using this
  · have e : i64s (xs ++ [x]) = i64s xs ++ [.int .i64 x] := (app.i64s_snoc xs x).symm
    rw [e, List.length_append]
    exact ownsRow_setCell_other ho (gway.apart_blk ho hB (by decide)) _
  · rcases hl with e | e
    · rw [e]; exact h.sep u hu p hp
    · rw [e]
      have := (h.row_lt u hu p hp).1
      intro e2; injection e2 with e2; omega
theorem rows_off {WB W : World} {B m qg : Nat} {v : Value} {vals : List Value} {xss : List (List Int)} {cs : Array Value} (h : Pile WB W B m v vals xss) (hk : Blk W qg 40 cs) : ∀ u ∈ vals, ∀ p, In u p → p.block ≠ qg := fun u hu p hp e => by
  obtain ⟨c, f, hc⟩ := h.typ u hu p hp
  rw [e] at hc
  exact absurd (make.blk_type hc hk) (by decide)
/-- a row more -/
theorem growR {WB wr W : World} {qg m m' T : Nat} {X Y : Int} {wv v v' u : Value} {xs ys : List Int} {vals : List Value} {xss : List (List Int)} (hp : Pile WB wr WB.heap.size m v vals xss) (hge : WB.heap.size ≤ qg)
    (hk : Blk wr qg 40 #[.int .i64 X, .int .i64 Y, wv, v]) (hown : wr.ownsRow WB.heap.size 3 1 wv xs.length (i64s xs)) (hsep : ∀ u ∈ vals, ∀ p, In u p → wv.ownBlock ≠ some p.block) (hw : ∀ b, wv.ownBlock = some b → b < m')
    (hu : OwnInts wr m' T u ys) (hm : m ≤ m') (hT : T ≤ wr.heap.size) (ht : pile.Typ wr u)
    (ho : W.ownsRow WB.heap.size 34 1 v' (xss.length + 1) (vals ++ [u])) (hg : wr.grownBy W v.ownBlock) :
    AskM WB (W.setCell ⟨qg, 3, none⟩ v') qg X Y wv xs v' (vals ++ [u]) (xss ++ [ys]) ∧ Blk W qg 40 #[.int .i64 X, .int .i64 Y, wv, v] := by
  have hB : Blk W qg 40 #[.int .i64 X, .int .i64 Y, wv, v] := (hg.block _ hk.lt (fun e => gway.apart_blk hp.owns hk (by decide) e.symm)).trans hk
  have hP := hp.grow hu hm hT ht ho hg
  have hO := hown.kept hg (gway.apart hown hp.owns (by decide))
  have hqv := gway.apart_blk ho hB (by decide)
  refine ⟨⟨(pile_move hP (hP.below.setCell hge _) (by simp [World.setCell]) (fun b hb => blk_setCell_other _ _ _ _ (fun e => hqv (by rw [hb, e]))) (fun q hq p hp' => blk_setCell_other _ _ _ _ (rows_off hP hB q hq p hp'))).fresh, hge, ?_, ownsRow_setCell_other hO (gway.apart_blk hO hB (by decide)) _, fun q hq p hp' e => ?_⟩, hB⟩
  · have := Joins.block_setCell (i := 3) hB v'
    unfold Blk
    simpa using this
  · rcases List.mem_append.1 hq with h1 | h1
    · exact hsep q h1 p hp' e
    · simp at h1
      subst h1
      have h2 := hw _ e
      have h3 := hu.ge p hp'
      omega


theorem lows2q {n : Nat} {w w' : World} {a0 a1 q : Addr} {u0 u1 u : Value} (h0 : w.cell? a0 = some u0) (h1 : w.cell? a1 = some u1) (l0 : a0.block < n) (l1 : a1.block < n) (h : step.Low n w w') (hq : w'.cell? q = some u) :
    w'.cell? a0 = some u0 ∧ w'.cell? a1 = some u1 ∧ w'.cell? q = some u := ⟨(h _ l0).trans h0, (h _ l1).trans h1, hq⟩
theorem row_quad {gx gy : Int} {ws : List Int} {xss : List (List Int)} (h : okGame gx gy ws xss) {t : Nat} (ht : t < xss.length) : xss[t] = [nn xss t 0, nn xss t 1, nn xss t 2, nn xss t 3] := by
  have hl : xss[t].length = 4 := by have := (h.2.2.2.2.1 t ht).1; omega
  have e : ∀ j (hj : j < 4), xss[t][j]'(by omega) = nn xss t j := fun j hj => worth.nn_row xss ht (by omega)
  refine List.ext_getElem (by simp [hl]) (fun j h1 h2 => ?_)
  rw [e j (by omega)]
  match j, (by omega : j < 4) with
  | 0, _ => rfl
  | 1, _ => rfl
  | 2, _ => rfl
  | 3, _ => rfl


set_option maxRecDepth 100000 in
set_option maxHeartbeats 8000000 in
theorem l4ask (gx gy : Int) (v : Value) (ws : List Int) (u : Value) (xss : List (List Int)) (fv sv : Value) (fs ss : List Int) (w : World) (h : game.GV w v ws u xss) (hf : Ints w fv fs) (hs : Ints w sv ss) (hok : okGame gx gy ws xss) (ha : okAsk gx gy fs ss) :
    Calls Try.prog 72 #[.agg #[.int .i64 gx, .int .i64 gy, v, u], fv, sv] w fun e w' => ∃ a r, e = .returned (.agg #[.int .i64 (fs.length : Nat), .int .i64 (ss.length : Nat), a, r]) ∧
      OwnInts w' w.heap.size w'.heap.size a (wts gy fs ss ws (fs.length * ss.length)) ∧ OwnRows w' w.heap.size w'.heap.size r (make.rowsOf (N gy fs ss xss) (fs.length * ss.length)) ∧ Below w.heap.size w w' := by
  obtain ⟨s0, si, sz0, sz1, sz2⟩ := info_parts infoInts
  obtain ⟨i0, hi, hz0, hz1, hz2⟩ := info_parts infoInt
  have hmul := val.mul_small hok.1
  have hl1 := hok.2.1
  have hl2 := hok.2.2.1
  obtain ⟨A3, wb, wo, wc, rfl, _, _, hA3, hc3⟩ := h.ints.form
  obtain rfl := hA3 (by omega)
  obtain ⟨A4, ub, uo, uc, R, rfl, _, _, hA4, hc4⟩ := h.rows.form
  obtain rfl := hA4 (by omega)
  obtain ⟨A1, b1, o1, q1, rfl, _, _, hA1, hc1⟩ := hf.form
  obtain rfl := hA1 (by have := ha.1; omega)
  obtain ⟨A2, b2, o2, q2, rfl, _, _, hA2, hc2⟩ := hs.form
  obtain rfl := hA2 (by have := ha.2.1; omega)
  have BB := Lib.hid (below_al (below_al (Below.refl w.heap.size w) (.cells #[.int .i64 gx, .int .i64 gy, .slice (some ⟨wb, wo, none⟩) ws.length wc, .slice (some ⟨ub, uo, none⟩) xss.length uc] 40)) (.cells #[.int .i64 0, .int .i64 0, .slice none 0 0, .slice none 0 0] 40))
  have K0 : Hid (Blk ((w.alloc (.cells #[.int .i64 gx, .int .i64 gy, .slice (some ⟨wb, wo, none⟩) ws.length wc, .slice (some ⟨ub, uo, none⟩) xss.length uc] 40)).alloc (.cells #[.int .i64 0, .int .i64 0, .slice none 0 0, .slice none 0 0] 40)) w.heap.size 40 #[.int .i64 gx, .int .i64 gy, .slice (some ⟨wb, wo, none⟩) ws.length wc, .slice (some ⟨ub, uo, none⟩) xss.length uc]) := Lib.hid ((Blk.new w 40 #[.int .i64 gx, .int .i64 gy, .slice (some ⟨wb, wo, none⟩) ws.length wc, .slice (some ⟨ub, uo, none⟩) xss.length uc]).alloc _)
  have R0 : Hid (Blk ((w.alloc (.cells #[.int .i64 gx, .int .i64 gy, .slice (some ⟨wb, wo, none⟩) ws.length wc, .slice (some ⟨ub, uo, none⟩) xss.length uc] 40)).alloc (.cells #[.int .i64 0, .int .i64 0, .slice none 0 0, .slice none 0 0] 40)) (w.heap.size + 1) 40 #[.int .i64 0, .int .i64 0, .slice none 0 0, .slice none 0 0]) := Lib.hid (by have := Blk.new (w.alloc (.cells #[.int .i64 gx, .int .i64 gy, .slice (some ⟨wb, wo, none⟩) ws.length wc, .slice (some ⟨ub, uo, none⟩) xss.length uc] 40)) 40 #[.int .i64 0, .int .i64 0, .slice none 0 0, .slice none 0 0]; simpa using this)
  have HZ : Hid (((w.alloc (.cells #[.int .i64 gx, .int .i64 gy, .slice (some ⟨wb, wo, none⟩) ws.length wc, .slice (some ⟨ub, uo, none⟩) xss.length uc] 40)).alloc (.cells #[.int .i64 0, .int .i64 0, .slice none 0 0, .slice none 0 0] 40)).heap.size = w.heap.size + 1 + 1) := Lib.hid (by simp)
  have A0 : Hid (AskM ((w.alloc (.cells #[.int .i64 gx, .int .i64 gy, .slice (some ⟨wb, wo, none⟩) ws.length wc, .slice (some ⟨ub, uo, none⟩) xss.length uc] 40)).alloc (.cells #[.int .i64 0, .int .i64 0, .slice none 0 0, .slice none 0 0] 40)) (((((w.alloc (.cells #[.int .i64 gx, .int .i64 gy, .slice (some ⟨wb, wo, none⟩) ws.length wc, .slice (some ⟨ub, uo, none⟩) xss.length uc] 40)).alloc (.cells #[.int .i64 0, .int .i64 0, .slice none 0 0, .slice none 0 0] 40)).alloc (.cells #[] 3)).alloc (.cells #[] 34)).alloc (.cells #[.int .i64 (fs.length : Nat), .int .i64 (ss.length : Nat), .slice (some ⟨w.heap.size + 1 + 1, 0, none⟩) 0 0, .slice (some ⟨w.heap.size + 1 + 1 + 1, 0, none⟩) 0 0] 40)) (w.heap.size + 1 + 1 + 1 + 1) (fs.length : Nat) (ss.length : Nat) (.slice (some ⟨w.heap.size + 1 + 1, 0, none⟩) 0 0) (wts gy fs ss ws (0 * ss.length)) (.slice (some ⟨w.heap.size + 1 + 1 + 1, 0, none⟩) 0 0) [] (make.rowsOf (N gy fs ss xss) (0 * ss.length))) := Lib.hid (by
    rw [Nat.zero_mul]
    refine ⟨pile.start (below_al (below_al (below_al (Below.refl _ _) _) _) _) (Nat.le_refl _) ?_ (by simp), by simp, ?_, ?_, fun q hq => by simp at hq⟩
    · have := World.ownsRow_made (base := ((w.alloc (.cells #[.int .i64 gx, .int .i64 gy, .slice (some ⟨wb, wo, none⟩) ws.length wc, .slice (some ⟨ub, uo, none⟩) xss.length uc] 40)).alloc (.cells #[.int .i64 0, .int .i64 0, .slice none 0 0, .slice none 0 0] 40)).heap.size) (e := 34) (size := 1) (((w.alloc (.cells #[.int .i64 gx, .int .i64 gy, .slice (some ⟨wb, wo, none⟩) ws.length wc, .slice (some ⟨ub, uo, none⟩) xss.length uc] 40)).alloc (.cells #[.int .i64 0, .int .i64 0, .slice none 0 0, .slice none 0 0] 40)).alloc (.cells #[] 3)) #[] 0 (by simp) (Nat.zero_le _) rfl
      have := app.owns_below this (below_al (Below.refl _ _) (.cells #[.int .i64 (fs.length : Nat), .int .i64 (ss.length : Nat), .slice (some ⟨w.heap.size + 1 + 1, 0, none⟩) 0 0, .slice (some ⟨w.heap.size + 1 + 1 + 1, 0, none⟩) 0 0] 40))
      simpa using this
    · have := Blk.new ((((w.alloc (.cells #[.int .i64 gx, .int .i64 gy, .slice (some ⟨wb, wo, none⟩) ws.length wc, .slice (some ⟨ub, uo, none⟩) xss.length uc] 40)).alloc (.cells #[.int .i64 0, .int .i64 0, .slice none 0 0, .slice none 0 0] 40)).alloc (.cells #[] 3)).alloc (.cells #[] 34)) 40 #[.int .i64 (fs.length : Nat), .int .i64 (ss.length : Nat), .slice (some ⟨w.heap.size + 1 + 1, 0, none⟩) 0 0, .slice (some ⟨w.heap.size + 1 + 1 + 1, 0, none⟩) 0 0]
      simpa using this
    · have := World.ownsRow_made (base := ((w.alloc (.cells #[.int .i64 gx, .int .i64 gy, .slice (some ⟨wb, wo, none⟩) ws.length wc, .slice (some ⟨ub, uo, none⟩) xss.length uc] 40)).alloc (.cells #[.int .i64 0, .int .i64 0, .slice none 0 0, .slice none 0 0] 40)).heap.size) (e := 3) (size := 1) ((w.alloc (.cells #[.int .i64 gx, .int .i64 gy, .slice (some ⟨wb, wo, none⟩) ws.length wc, .slice (some ⟨ub, uo, none⟩) xss.length uc] 40)).alloc (.cells #[.int .i64 0, .int .i64 0, .slice none 0 0, .slice none 0 0] 40)) #[] 0 (Nat.le_refl _) (Nat.zero_le _) rfl
      have := app.owns_below (app.owns_below this (below_al (Below.refl _ _) (.cells #[] 34))) (below_al (Below.refl _ _) (.cells #[.int .i64 (fs.length : Nat), .int .i64 (ss.length : Nat), .slice (some ⟨w.heap.size + 1 + 1, 0, none⟩) 0 0, .slice (some ⟨w.heap.size + 1 + 1 + 1, 0, none⟩) 0 0] 40))
      simpa [wts, i64s] using this)
  have HC1 := Lib.hid (fun (k : Nat) (hk : k < fs.length) => show w.cell? ⟨b1, o1 + k, none⟩ = some (.int .i64 (fs.getD k 0)) from by rw [show fs.getD k 0 = fs[k] from by simp [List.getD, hk]]; exact hc1 k hk)
  have HC2 := Lib.hid (fun (k : Nat) (hk : k < ss.length) => show w.cell? ⟨b2, o2 + k, none⟩ = some (.int .i64 (ss.getD k 0)) from by rw [show ss.getD k 0 = ss[k] from by simp [List.getD, hk]]; exact hc2 k hk)
  have HC3 := Lib.hid (fun (k : Nat) (hk : k < ws.length) => show w.cell? ⟨wb, wo + k, none⟩ = some (.int .i64 (wt ws k)) from by rw [← gwon.wt_get hk]; exact hc3 k hk)
  have HC4 := Lib.hid hc4
  have HOK := Lib.hid hok
  have HA := Lib.hid ha
  have h9 : fs.length * ss.length ≤ 9 := Nat.mul_le_mul ha.1.2 ha.2.1.2
  have H9 := Lib.hid h9
  have hX3 := ha.1
  have hY3 := ha.2.1
  have HSA := Lib.hid (src_at gy fs ss)
  have HWS := Lib.hid (wts_succ gy fs ss ws)
  have HLW := Lib.hid (len_wts gy fs ss ws)
  have HLR := Lib.hid (fun k => make.len_rowsOf (N gy fs ss xss) k)
  have HRS := Lib.hid (fun k => show make.rowsOf (N gy fs ss xss) (k + 1) = make.rowsOf (N gy fs ss xss) k ++ [make.quad (N gy fs ss xss) k] from by simp [make.rowsOf, List.range_succ])
  have HL1 := Lib.hid hl1
  have HL2 := Lib.hid hl2
  clear h hf hs hok ha hA1 hA2 hA3 hA4 hc1 hc2 hc3 hc4 h9 hmul hl1 hl2
  go_enter Try.func72, Try.ntmps72
  go_wp2_with fail
  generalize ((w.alloc (.cells #[.int .i64 gx, .int .i64 gy, .slice (some ⟨wb, wo, none⟩) ws.length wc, .slice (some ⟨ub, uo, none⟩) xss.length uc] 40)).alloc (.cells #[.int .i64 0, .int .i64 0, .slice none 0 0, .slice none 0 0] 40)) = WB at *
  go_loopw [8, 9, 10] (fun i z9 z10 wr => ∃ a : Nat, a ≤ fs.length ∧ i = .int .i64 a ∧ (∃ z, z9 = z) ∧ (∃ z, z10 = z) ∧ ∃ wv v vals, Hid (AskM WB wr (w.heap.size + 1 + 1 + 1 + 1) (fs.length : Nat) (ss.length : Nat) wv (wts gy fs ss ws (a * ss.length)) v vals (make.rowsOf (N gy fs ss xss) (a * ss.length)))) (fun i _ _ _ => fs.length - (intOf i).toNat)
  case atStart => exact ⟨0, Nat.zero_le _, rfl, ⟨_, rfl⟩, ⟨_, rfl⟩, _, _, _, A0⟩
  case round =>
    obtain ⟨a, hal, rfl, ⟨z9, rfl⟩, ⟨z10, rfl⟩, wv, v, vals, hA⟩ := hrel
    clear A0
    obtain ⟨wo', rfl⟩ : ∃ wo' : World, wo' = wr := ⟨_, rfl⟩
    by_cases hlt : a < fs.length
    · have hkz : (a : Int) < (fs.length : Int) := by omega
      go_wp2_with fail
      go_loopw [9, 10] (fun j z10 wi => ∃ c : Nat, c ≤ ss.length ∧ j = .int .i64 c ∧ (∃ z, z10 = z) ∧ ∃ wv v vals, Hid (AskM WB wi (w.heap.size + 1 + 1 + 1 + 1) (fs.length : Nat) (ss.length : Nat) wv (wts gy fs ss ws (a * ss.length + c)) v vals (make.rowsOf (N gy fs ss xss) (a * ss.length + c)))) (fun j _ _ => ss.length - (intOf j).toNat)
      case atStart => exact ⟨0, Nat.zero_le _, rfl, ⟨_, rfl⟩, _, _, _, hA⟩
      case round =>
        clear hA
        obtain ⟨c, hcl, rfl, ⟨z, rfl⟩, wv, v, vals, hA⟩ := hrel
        obtain ⟨wi, rfl⟩ : ∃ wi : World, wi = wr := ⟨_, rfl⟩
        by_cases hlc : c < ss.length
        · have hkc : (c : Int) < (ss.length : Int) := by omega
          have BI := Lib.hid (below_tr BB.out hA.out.pile.below)
          have e1 := below_cell BI.out _ _ (HC1.out a hlt)
          have e2 := below_cell BI.out _ _ (HC2.out c hlc)
          obtain ⟨k0, k1, k2, k3, k4⟩ := four_cells (K0.out.below hA.out.pile.below)
          have hfa := HA.out.2.2.1 a hlt
          have hsc := HA.out.2.2.2 c hlc
          have hlr := row.idx_lt HOK.out.1 hfa.1 hfa.2 hsc.1 hsc.2
          have hsrc := HSA.out a c hlc
          have hk9 : a * ss.length + c < 9 := by
            have h1 : a * ss.length + c < (a + 1) * ss.length := by rw [Nat.add_mul]; omega
            have h2 : (a + 1) * ss.length ≤ fs.length * ss.length := Nat.mul_le_mul_right _ (by omega)
            have := H9.out
            omega
          generalize hxe : fs.getD a 0 = x at *
          generalize hye : ss.getD c 0 = y at *
          obtain ⟨m9, mw⟩ : x * gy + y < gx * gy ∧ gx * gy ≤ 9 := ⟨hlr.2.2.1, row.mul9 HOK.out.1⟩
          have kx : IntKind.i64.wrap (x * gy) = x * gy := IntWalk.i64_in _ (by omega)
          obtain ⟨t, ht⟩ : ∃ t, at_ gy x y = t := ⟨_, rfl⟩
          have htz : x * gy + y = (t : Int) := by rw [← ht]; unfold at_; omega
          have kt : IntKind.i64.wrap (x * gy + y) = (t : Int) := by rw [htz]; exact IntWalk.i64_in _ (by omega)
          have ht1 : t < ws.length := by have := HL1.out; omega
          have ht2 : t < xss.length := by have := HL2.out; omega
          have HNX := Lib.hid (show wts gy fs ss ws (a * ss.length + c + 1) = wts gy fs ss ws (a * ss.length + c) ++ [wt ws t] from by rw [HWS.out, hsrc, ht])
          have HNR := Lib.hid (show make.rowsOf (N gy fs ss xss) (a * ss.length + c + 1) = make.rowsOf (N gy fs ss xss) (a * ss.length + c) ++ [xss[t]] from by
            rw [HRS.out, row_quad HOK.out ht2]
            unfold make.quad N
            rw [hsrc, ht])
          have HK9 : Hid ((wts gy fs ss ws (a * ss.length + c)).length < 9) := Lib.hid (by rw [HLW.out]; exact hk9)
          have HK10 : Hid ((make.rowsOf (N gy fs ss xss) (a * ss.length + c)).length < 9) := Lib.hid (by rw [HLR.out]; exact hk9)
          have HAA := hA
          have it1 : (t : Int) < (ws.length : Int) := by omega
          have it2 : (t : Int) < (xss.length : Int) := by omega
          have hHZ := HZ.out
          clear hA hfa hsc hlr hsrc hxe hye m9 mw ht htz hk9
          go_wp2_with fail
          go_quiet (fail)
          go_wp2_with fail
          obtain ⟨w1, hw1⟩ : ∃ w1, wi.drewN nq = w1 := ⟨_, rfl⟩
          have hb1 : Below wi.heap.size wi w1 := hw1 ▸ below_drewN (Below.refl _ _) nq
          have A1 := Lib.hid (HAA.out.keep hb1)
          rw [hw1]
          clear hw1 hb1 e1 e2 k0 k1 k2 k3 k4 HAA
          obtain ⟨xa, xl, xc, rfl⟩ := make.shape A1.out.own
          obtain ⟨k0, k1, k2, k3, k4⟩ := four_cells K0.out
          have g1 := below_cell BB.out _ _ (HC3.out t ht1)
          have l1 : wb < WB.heap.size := World.block_lt_of_cell? _ _ g1
          obtain ⟨f0, f1, f2, f3, f4⟩ := four_cells A1.out.blk
          have L2 := Lib.hid (step.Low.below A1.out.pile.below)
          have hs1 : WB.heap.size ≤ w1.heap.size := A1.out.pile.below.size
          generalize wt ws t = n at *
          have f2a := fun (o1 : Obj) => below_cell (below_al (Below.refl _ _) o1) _ _ f2
          have HG := Lib.hid (A1.out.keep (below_dr (below_al (Below.refl _ _) (.cells #[.int .i64 n] 3))))
          refine last.start (S := (fun w' => w'.cell? ⟨w.heap.size, 2, none⟩ = some (.slice (some ⟨wb, wo, none⟩) ws.length wc) ∧ w'.cell? ⟨wb, wo + t, none⟩ = some (.int .i64 n) ∧ w'.cell? ⟨w.heap.size + 1 + 1 + 1 + 1, 2, none⟩ = some (.slice xa xl xc))) (L := 10) (by kernel_rfl) ?_
          have hHeld : (fun w' => w'.cell? ⟨w.heap.size, 2, none⟩ = some (.slice (some ⟨wb, wo, none⟩) ws.length wc) ∧ w'.cell? ⟨wb, wo + t, none⟩ = some (.int .i64 n) ∧ w'.cell? ⟨w.heap.size + 1 + 1 + 1 + 1, 2, none⟩ = some (.slice xa xl xc)) w1.drew := by
            refine lows2q k2 g1 k4 l1 ?_ f2
            exact L2.out.drew
          refine last.take (i := 0) (oi := { dst := some 42, op := Op.fieldAddr 40 (Operand.tmp 7) 2, type := 0, pos := "l4_games.go:215", after := #[], guard := none }) (v := ?v0) rfl (by kernel_rfl) (by kernel_rfl) (by kernel_rfl) (by kernel_rfl) (by decide) (fun _ _ _ h => h) (Or.inl ⟨by rfl, ?y0⟩) hHeld ?r0
          case y0 => (intro w hSw; (try dsimp only at hSw); go_simp; try with_reducible rfl)
          try simp only [Act.put, List.setIfInBounds_toArray, List.set_cons_zero, List.set_cons_succ]
          refine last.take (i := 1) (oi := { dst := some 43, op := Op.load 34 (Operand.tmp 42), type := 34, pos := "l4_games.go:215", after := #[{ on := 0, ground := Ground.data }], guard := none }) (v := ?v1) rfl (by kernel_rfl) (by kernel_rfl) (by kernel_rfl) (by kernel_rfl) (by decide) (fun _ _ _ h => h) (Or.inl ⟨by rfl, ?y1⟩) hHeld ?r1
          case y1 => (intro w hSw; (try dsimp only at hSw); go_simp; try with_reducible rfl)
          try simp only [Act.put, List.setIfInBounds_toArray, List.set_cons_zero, List.set_cons_succ]
          refine last.take (i := 2) (oi := { dst := some 44, op := Op.fieldAddr 40 (Operand.tmp 3) 2, type := 0, pos := "l4_games.go:215", after := #[], guard := none }) (v := ?v2) rfl (by kernel_rfl) (by kernel_rfl) (by kernel_rfl) (by kernel_rfl) (by decide) (fun _ _ _ h => h) (Or.inl ⟨by rfl, ?y2⟩) hHeld ?r2
          case y2 => (intro w hSw; (try dsimp only at hSw); go_simp; try with_reducible rfl)
          try simp only [Act.put, List.setIfInBounds_toArray, List.set_cons_zero, List.set_cons_succ]
          refine last.take (i := 3) (oi := { dst := some 45, op := Op.load 34 (Operand.tmp 44), type := 34, pos := "l4_games.go:215", after := #[{ on := 2, ground := Ground.data }], guard := none }) (v := ?v3) rfl (by kernel_rfl) (by kernel_rfl) (by kernel_rfl) (by kernel_rfl) (by decide) (fun _ _ _ h => h) (Or.inl ⟨by rfl, ?y3⟩) hHeld ?r3
          case y3 => (intro w hSw; (try dsimp only at hSw); go_simp; try with_reducible rfl)
          try simp only [Act.put, List.setIfInBounds_toArray, List.set_cons_zero, List.set_cons_succ]
          refine last.take (i := 4) (oi := { dst := some 46, op := Op.move (Operand.tmp 10), type := 3, pos := "l4_games.go:215", after := #[], guard := none }) (v := ?v4) rfl (by kernel_rfl) (by kernel_rfl) (by kernel_rfl) (by kernel_rfl) (by decide) (fun _ _ _ h => h) (Or.inl ⟨by rfl, ?y4⟩) hHeld ?r4
          case y4 => (intro w hSw; (try dsimp only at hSw); go_simp; try with_reducible rfl)
          try simp only [Act.put, List.setIfInBounds_toArray, List.set_cons_zero, List.set_cons_succ]
          refine last.take (i := 5) (oi := { dst := some 47, op := Op.indexAddr 34 (Operand.tmp 45) (Operand.tmp 46), type := 0, pos := "l4_games.go:215", after := #[{ on := 3, ground := Ground.data }, { on := 4, ground := Ground.data }], guard := none }) (v := ?v5) rfl (by kernel_rfl) (by kernel_rfl) (by kernel_rfl) (by kernel_rfl) (by decide) (fun _ _ _ h => h) (Or.inl ⟨by rfl, ?y5⟩) hHeld ?r5
          case y5 => (intro w hSw; (try dsimp only at hSw); go_simp; try with_reducible rfl)
          try simp only [Act.put, List.setIfInBounds_toArray, List.set_cons_zero, List.set_cons_succ]
          refine last.take (i := 6) (oi := { dst := some 48, op := Op.load 3 (Operand.tmp 47), type := 3, pos := "l4_games.go:215", after := #[{ on := 5, ground := Ground.data }], guard := none }) (v := ?v6) rfl (by kernel_rfl) (by kernel_rfl) (by kernel_rfl) (by kernel_rfl) (by decide) (fun _ _ _ h => h) (Or.inl ⟨by rfl, ?y6⟩) hHeld ?r6
          case y6 => (intro w hSw; (try dsimp only at hSw); go_simp; try with_reducible rfl)
          try simp only [Act.put, List.setIfInBounds_toArray, List.set_cons_zero, List.set_cons_succ]
          refine last.one (i := 7) (o := { dst := some 49, op := Op.buildSlice 34 1 #[(0, Operand.tmp 48)], type := 34, pos := "l4_games.go:215", after := #[{ on := 6, ground := Ground.data }], guard := none }) (by kernel_rfl) rfl (fun K hK => ?_)
          go_simp
          refine hK.out _ _ ?s7 (fun hHeld => ?_)
          case s7 => (try dsimp only); (refine lows2q k2 g1 k4 l1 ?_ (f2a _); (repeat (first | exact L2.out | exact L3.out | exact L4.out | refine step.Low.drew ?_ | refine step.Low.alloc ?_ (by first | omega | (simp; omega)) _)))
          clear hK K
          try simp only [Act.put, List.setIfInBounds_toArray, List.set_cons_zero, List.set_cons_succ]
          refine last.one (i := 8) (o := { dst := some 50, op := Op.call { callee := Callee.builtin Builtin.append, args := #[Operand.tmp 43, Operand.tmp 49], argTypes := #[34, 34] }, type := 34, pos := "l4_games.go:215", after := #[{ on := 1, ground := Ground.data }, { on := 7, ground := Ground.data }], guard := none }) (by kernel_rfl) rfl (fun K hK => ?_)
          refine step.ownw rfl (.tmp 43) (.tmp 49) 34 rfl 3 i0 (.int .i64 0) 1 8 Try.underlying34 hi hz0 hz1 hz2 rfl (by decide) WB.heap.size _ (wts gy fs ss ws (a * ss.length + c)).length (i64s (wts gy fs ss ws (a * ss.length + c))) HG.out.own (by simp [Act.eval]) ⟨w1.heap.size, 0, none⟩ 1 1 [.int .i64 n] (by simp [Act.eval]) rfl (by intro j u hj; have := app.one_at w1 (.int .i64 n) 3; exact this j u hj) (by intro u hu; simp at hu; subst hu; rfl) (by have := HK9.out; unfold maxLen; omega) (by have := HK9.out; omega) (by simp; omega) (by omega) ?_
          intro v' w3 hown' hgrow hlies
          obtain ⟨hW4, hB4⟩ := HG.out.growW hown' hgrow hlies
          have W4 := Lib.hid hW4
          obtain ⟨s0', s1, s2, s3, s4⟩ := four_cells hB4
          have sf : ∀ k, w3.frozen? ⟨w.heap.size + 1 + 1 + 1 + 1, k, none⟩ = false := fun k => Joins.unfrozen_of_block hB4 k
          obtain ⟨pa, pl, pc, hvv⟩ := make.shape hown'
          subst hvv
          have L3 := Lib.hid (step.Low.grown (w := WB) (n := WB.heap.size) (step.Low.drew (step.Low.alloc L2.out hs1 _)) hgrow (by first | omega | (simp; omega)) (fun q hq => (HG.out.own.lt q hq).1))
          clear hW4 hB4 s0' s1 s3 s4
          refine hK.out _ _ ?s8 (fun hHeld => ?_)
          case s8 => (try dsimp only); (refine lows2q k2 g1 k4 l1 ?_ s2; (repeat (first | exact L2.out | exact L3.out | exact L4.out | refine step.Low.drew ?_ | refine step.Low.alloc ?_ (by first | omega | (simp; omega)) _)))
          clear hK K
          try simp only [Act.put, List.setIfInBounds_toArray, List.set_cons_zero, List.set_cons_succ]
          refine last.take (i := 9) (oi := { dst := some 51, op := Op.fieldAddr 40 (Operand.tmp 7) 2, type := 0, pos := "l4_games.go:215", after := #[{ on := 0, ground := Ground.phase }, { on := 1, ground := Ground.phase }, { on := 2, ground := Ground.phase }, { on := 3, ground := Ground.phase }, { on := 4, ground := Ground.phase }, { on := 5, ground := Ground.phase }, { on := 6, ground := Ground.phase }, { on := 7, ground := Ground.phase }, { on := 8, ground := Ground.phase }], guard := none }) (v := ?v9) rfl (by kernel_rfl) (by kernel_rfl) (by kernel_rfl) (by kernel_rfl) (by decide) (fun _ _ _ h => h) (Or.inl ⟨by rfl, ?y9⟩) hHeld ?r9
          case y9 => (intro w hSw; (try dsimp only at hSw); go_simp; try with_reducible rfl)
          try simp only [Act.put, List.setIfInBounds_toArray, List.set_cons_zero, List.set_cons_succ]
          refine last.final (o := { dst := none, op := Op.store 34 (Operand.tmp 51) (Operand.tmp 50), type := 0, pos := "l4_games.go:215", after := #[{ on := 9, ground := Ground.data }, { on := 8, ground := Ground.data }, { on := 8, ground := Ground.chain }, { on := 0, ground := Ground.phase }, { on := 1, ground := Ground.phase }, { on := 2, ground := Ground.phase }, { on := 3, ground := Ground.phase }, { on := 4, ground := Ground.phase }, { on := 5, ground := Ground.phase }, { on := 6, ground := Ground.phase }, { on := 7, ground := Ground.phase }, { on := 8, ground := Ground.phase }], guard := none }) (by kernel_rfl) rfl (fun K hK => ?_)
          go_simp
          refine hK.out _ _ ?_
          clear hK K
          try simp only [Act.put, List.setIfInBounds_toArray, List.set_cons_zero, List.set_cons_succ]
          refine last.done (by kernel_rfl) ?_ _
          rw [← HNX.out] at W4
          clear hown' hgrow hlies HG A1 L2 L3 f0 f1 f2 f3 f4 f2a s2 sf g1 l1 hs1 hHeld
          go_wp2_with fail
          generalize w3.setCell ⟨w.heap.size + 1 + 1 + 1 + 1, 2, none⟩ (.slice pa pl pc) = w4 at *
          obtain ⟨ya, yl, yc, rfl⟩ := make.shape W4.out.pile.owns
          have g1 := below_cell BB.out _ _ (HC4.out t ht2).1
          have l1 : ub < WB.heap.size := World.block_lt_of_cell? _ _ g1
          obtain ⟨f0, f1, f2, f3, f4⟩ := four_cells W4.out.blk
          have L2 := Lib.hid (step.Low.below W4.out.pile.below)
          have hs1 : WB.heap.size ≤ w4.heap.size := W4.out.pile.below.size
          have HOW := Lib.hid (fun (W : World) (hb : Below w.heap.size w W) => own.l1own_any (R t) xss[t] W ((HC4.out t ht2).2.below hb) (by have := (HOK.out.2.2.2.2.1 t ht2).1; omega))
          have BW4 := Lib.hid (below_tr BB.out W4.out.pile.below)
          refine last.start (S := (fun w' => w'.cell? ⟨w.heap.size, 3, none⟩ = some (.slice (some ⟨ub, uo, none⟩) xss.length uc) ∧ w'.cell? ⟨ub, uo + t, none⟩ = some (R t) ∧ w'.cell? ⟨w.heap.size + 1 + 1 + 1 + 1, 3, none⟩ = some (.slice ya yl yc))) (L := 11) (by kernel_rfl) ?_
          have hHeld : (fun w' => w'.cell? ⟨w.heap.size, 3, none⟩ = some (.slice (some ⟨ub, uo, none⟩) xss.length uc) ∧ w'.cell? ⟨ub, uo + t, none⟩ = some (R t) ∧ w'.cell? ⟨w.heap.size + 1 + 1 + 1 + 1, 3, none⟩ = some (.slice ya yl yc)) w4.drew := by
            refine lows2q k3 g1 k4 l1 ?_ f3
            exact L2.out.drew
          refine last.take (i := 0) (oi := { dst := some 52, op := Op.fieldAddr 40 (Operand.tmp 7) 3, type := 0, pos := "l4_games.go:216", after := #[], guard := none }) (v := ?v0b) rfl (by kernel_rfl) (by kernel_rfl) (by kernel_rfl) (by kernel_rfl) (by decide) (fun _ _ _ h => h) (Or.inl ⟨by rfl, ?y0b⟩) hHeld ?r0b
          case y0b => (intro w hSw; (try dsimp only at hSw); go_simp; try with_reducible rfl)
          try simp only [Act.put, List.setIfInBounds_toArray, List.set_cons_zero, List.set_cons_succ]
          refine last.take (i := 1) (oi := { dst := some 53, op := Op.load 22 (Operand.tmp 52), type := 22, pos := "l4_games.go:216", after := #[{ on := 0, ground := Ground.data }], guard := none }) (v := ?v1b) rfl (by kernel_rfl) (by kernel_rfl) (by kernel_rfl) (by kernel_rfl) (by decide) (fun _ _ _ h => h) (Or.inl ⟨by rfl, ?y1b⟩) hHeld ?r1b
          case y1b => (intro w hSw; (try dsimp only at hSw); go_simp; try with_reducible rfl)
          try simp only [Act.put, List.setIfInBounds_toArray, List.set_cons_zero, List.set_cons_succ]
          refine last.take (i := 2) (oi := { dst := some 54, op := Op.fieldAddr 40 (Operand.tmp 3) 3, type := 0, pos := "l4_games.go:216", after := #[], guard := none }) (v := ?v2b) rfl (by kernel_rfl) (by kernel_rfl) (by kernel_rfl) (by kernel_rfl) (by decide) (fun _ _ _ h => h) (Or.inl ⟨by rfl, ?y2b⟩) hHeld ?r2b
          case y2b => (intro w hSw; (try dsimp only at hSw); go_simp; try with_reducible rfl)
          try simp only [Act.put, List.setIfInBounds_toArray, List.set_cons_zero, List.set_cons_succ]
          refine last.take (i := 3) (oi := { dst := some 55, op := Op.load 22 (Operand.tmp 54), type := 22, pos := "l4_games.go:216", after := #[{ on := 2, ground := Ground.data }], guard := none }) (v := ?v3b) rfl (by kernel_rfl) (by kernel_rfl) (by kernel_rfl) (by kernel_rfl) (by decide) (fun _ _ _ h => h) (Or.inl ⟨by rfl, ?y3b⟩) hHeld ?r3b
          case y3b => (intro w hSw; (try dsimp only at hSw); go_simp; try with_reducible rfl)
          try simp only [Act.put, List.setIfInBounds_toArray, List.set_cons_zero, List.set_cons_succ]
          refine last.take (i := 4) (oi := { dst := some 56, op := Op.move (Operand.tmp 10), type := 3, pos := "l4_games.go:216", after := #[], guard := none }) (v := ?v4b) rfl (by kernel_rfl) (by kernel_rfl) (by kernel_rfl) (by kernel_rfl) (by decide) (fun _ _ _ h => h) (Or.inl ⟨by rfl, ?y4b⟩) hHeld ?r4b
          case y4b => (intro w hSw; (try dsimp only at hSw); go_simp; try with_reducible rfl)
          try simp only [Act.put, List.setIfInBounds_toArray, List.set_cons_zero, List.set_cons_succ]
          refine last.take (i := 5) (oi := { dst := some 57, op := Op.indexAddr 22 (Operand.tmp 55) (Operand.tmp 56), type := 0, pos := "l4_games.go:216", after := #[{ on := 3, ground := Ground.data }, { on := 4, ground := Ground.data }], guard := none }) (v := ?v5b) rfl (by kernel_rfl) (by kernel_rfl) (by kernel_rfl) (by kernel_rfl) (by decide) (fun _ _ _ h => h) (Or.inl ⟨by rfl, ?y5b⟩) hHeld ?r5b
          case y5b => (intro w hSw; (try dsimp only at hSw); go_simp; try with_reducible rfl)
          try simp only [Act.put, List.setIfInBounds_toArray, List.set_cons_zero, List.set_cons_succ]
          refine last.take (i := 6) (oi := { dst := some 58, op := Op.load 34 (Operand.tmp 57), type := 34, pos := "l4_games.go:216", after := #[{ on := 5, ground := Ground.data }], guard := none }) (v := ?v6b) rfl (by kernel_rfl) (by kernel_rfl) (by kernel_rfl) (by kernel_rfl) (by decide) (fun _ _ _ h => h) (Or.inl ⟨by rfl, ?y6b⟩) hHeld ?r6b
          case y6b => (intro w hSw; (try dsimp only at hSw); go_simp; try with_reducible rfl)
          try simp only [Act.put, List.setIfInBounds_toArray, List.set_cons_zero, List.set_cons_succ]
          refine last.one (i := 7) (o := { dst := some 59, op := Op.call { callee := Callee.value (Operand.func 99), args := #[Operand.tmp 58], argTypes := #[34] }, type := 34, pos := "l4_games.go:216", after := #[{ on := 6, ground := Ground.data }], guard := none }) (by kernel_rfl) rfl (fun K hK => ?_)
          go_simp
          (go_at_call 99; (with_reducible refine (HOW.out _ (below_dr BW4.out)).mono ?_); rintro e wc' ⟨rv, rfl, hro, hb⟩)
          obtain ⟨ra, rl, rc, rfl⟩ := make.shape hro
          try go_simp
          have hbw : Below w4.heap.size w4 wc' := below_tr (below_dr (Below.refl _ _)) hb
          have f3c := below_cell hbw _ _ f3
          have L4 := Lib.hid (step.Low.below (below_tr W4.out.pile.below hbw))
          have hsc2 : WB.heap.size ≤ wc'.heap.size := (below_tr W4.out.pile.below hbw).size
          have f3a := fun (o1 : Obj) => below_cell (below_al (Below.refl _ _) o1) _ _ f3c
          have hba := below_al hbw (.cells #[.slice ra rl rc] 34)
          have HP := Lib.hid (W4.out.pile.keep hba)
          have HK := Lib.hid (W4.out.blk.below hba)
          have HO := Lib.hid (app.owns_below W4.out.own hba)
          have HU := Lib.hid ((app.ints_of_owns hro).keep (below_al (Below.refl _ _) (.cells #[.slice ra rl rc] 34)))
          have HT := Lib.hid (pile.typ_owns (hro.alloc (.cells #[.slice ra rl rc] 34)))
          refine hK.out _ _ ?s7b (fun hHeld => ?_)
          case s7b => (try dsimp only); (refine lows2q k3 g1 k4 l1 ?_ f3c; (repeat (first | exact L2.out | exact L3.out | exact L4.out | refine step.Low.drew ?_ | refine step.Low.alloc ?_ (by first | omega | (simp; omega)) _)))
          clear hK K
          try simp only [Act.put, List.setIfInBounds_toArray, List.set_cons_zero, List.set_cons_succ]
          refine last.one (i := 8) (o := { dst := some 60, op := Op.buildSlice 22 1 #[(0, Operand.tmp 59)], type := 22, pos := "l4_games.go:216", after := #[{ on := 7, ground := Ground.data }], guard := none }) (by kernel_rfl) rfl (fun K hK => ?_)
          go_simp
          refine hK.out _ _ ?s8b (fun hHeld => ?_)
          case s8b => (try dsimp only); (refine lows2q k3 g1 k4 l1 ?_ (f3a _); (repeat (first | exact L2.out | exact L3.out | exact L4.out | refine step.Low.drew ?_ | refine step.Low.alloc ?_ (by first | omega | (simp; omega)) _)))
          clear hK K
          try simp only [Act.put, List.setIfInBounds_toArray, List.set_cons_zero, List.set_cons_succ]
          refine last.one (i := 9) (o := { dst := some 61, op := Op.call { callee := Callee.builtin Builtin.append, args := #[Operand.tmp 53, Operand.tmp 60], argTypes := #[22, 22] }, type := 22, pos := "l4_games.go:216", after := #[{ on := 1, ground := Ground.data }, { on := 8, ground := Ground.data }, { on := 7, ground := Ground.chain }], guard := none }) (by kernel_rfl) rfl (fun K hK => ?_)
          refine step.own rfl (.tmp 53) (.tmp 60) 22 rfl 34 s0 (.slice none 0 0) 1 24 Try.underlying22 si sz0 sz1 sz2 rfl (by decide) WB.heap.size _ (make.rowsOf (N gy fs ss xss) (a * ss.length + c)).length vals HP.out.owns (by simp [Act.eval]) ⟨wc'.heap.size, 0, none⟩ 1 1 [.slice ra rl rc] (by simp [Act.eval]) rfl (by intro j u hj; have := app.one_at wc' (.slice ra rl rc) 34; exact this j u hj) (by intro u hu; simp at hu; subst hu; rfl) (by have := HK10.out; unfold maxLen; omega) (by have := HK10.out; omega) (by simp; omega) ?_
          intro v' w5 hown5 hgrow5
          obtain ⟨hW5, hB5⟩ := growR (m := w4.heap.size) (m' := w4.heap.size) (T := wc'.heap.size) HP.out W4.out.bge HK.out HO.out W4.out.sep (fun b hb' => (W4.out.own.lt b hb').2) HU.out (Nat.le_refl _) (by simp) HT.out hown5 hgrow5
          have W5 := Lib.hid hW5
          obtain ⟨s0', s1, s2, s3, s4⟩ := four_cells hB5
          have sf : ∀ k, w5.frozen? ⟨w.heap.size + 1 + 1 + 1 + 1, k, none⟩ = false := fun k => Joins.unfrozen_of_block hB5 k
          obtain ⟨za, zl, zc, hvv⟩ := make.shape hown5
          subst hvv
          have L3 := Lib.hid (step.Low.grown (w := WB) (n := WB.heap.size) (step.Low.alloc L4.out hsc2 _) hgrow5 (by first | omega | (simp; omega)) (fun q hq => (HP.out.owns.lt q hq).1))
          clear hW5 hB5 s0' s1 s2 s4
          refine hK.out _ _ ?s9b (fun hHeld => ?_)
          case s9b => (try dsimp only); (refine lows2q k3 g1 k4 l1 ?_ s3; (repeat (first | exact L2.out | exact L3.out | exact L4.out | refine step.Low.drew ?_ | refine step.Low.alloc ?_ (by first | omega | (simp; omega)) _)))
          clear hK K
          try simp only [Act.put, List.setIfInBounds_toArray, List.set_cons_zero, List.set_cons_succ]
          refine last.take (i := 10) (oi := { dst := some 62, op := Op.fieldAddr 40 (Operand.tmp 7) 3, type := 0, pos := "l4_games.go:216", after := #[{ on := 0, ground := Ground.phase }, { on := 1, ground := Ground.phase }, { on := 2, ground := Ground.phase }, { on := 3, ground := Ground.phase }, { on := 4, ground := Ground.phase }, { on := 5, ground := Ground.phase }, { on := 6, ground := Ground.phase }, { on := 7, ground := Ground.phase }, { on := 8, ground := Ground.phase }, { on := 9, ground := Ground.phase }], guard := none }) (v := ?v10b) rfl (by kernel_rfl) (by kernel_rfl) (by kernel_rfl) (by kernel_rfl) (by decide) (fun _ _ _ h => h) (Or.inl ⟨by rfl, ?y10b⟩) hHeld ?r10b
          case y10b => (intro w hSw; (try dsimp only at hSw); go_simp; try with_reducible rfl)
          try simp only [Act.put, List.setIfInBounds_toArray, List.set_cons_zero, List.set_cons_succ]
          refine last.final (o := { dst := none, op := Op.store 22 (Operand.tmp 62) (Operand.tmp 61), type := 0, pos := "l4_games.go:216", after := #[{ on := 10, ground := Ground.data }, { on := 9, ground := Ground.data }, { on := 9, ground := Ground.chain }, { on := 0, ground := Ground.phase }, { on := 1, ground := Ground.phase }, { on := 2, ground := Ground.phase }, { on := 3, ground := Ground.phase }, { on := 4, ground := Ground.phase }, { on := 5, ground := Ground.phase }, { on := 6, ground := Ground.phase }, { on := 7, ground := Ground.phase }, { on := 8, ground := Ground.phase }, { on := 9, ground := Ground.phase }], guard := none }) (by kernel_rfl) rfl (fun K hK => ?_)
          go_simp
          refine hK.out _ _ ?_
          clear hK K
          try simp only [Act.put, List.setIfInBounds_toArray, List.set_cons_zero, List.set_cons_succ]
          refine last.done (by kernel_rfl) ?_ _
          rw [← HNR.out] at W5
          clear hown5 hgrow5 HP HK HO HU HT L2 L3 L4 f0 f1 f2 f3 f4 f3c f3a s3 sf g1 l1 hs1 hb hbw hba hro W4 k0 k1 k2 k3 k4
          go_wp2_with fail
          go_roundw
          case rel => exact ⟨c + 1, by omega, by go_num, ⟨_, rfl⟩, _, _, _, W5⟩
          case measure => simp [intOf]; omega
        · have hkc : ¬ (c : Int) < (ss.length : Int) := by omega
          have hcy : a * ss.length + c = (a + 1) * ss.length := by rw [Nat.add_mul, Nat.one_mul]; omega
          rw [hcy] at hA
          go_wp2_with fail
          go_roundw
          case rel => exact ⟨a + 1, by omega, by go_num, ⟨_, rfl⟩, ⟨_, rfl⟩, _, _, _, hA⟩
          case measure => simp [intOf]; omega
    · have hkz : ¬ (a : Int) < (fs.length : Int) := by omega
      obtain rfl : a = fs.length := by omega
      obtain ⟨xa, xl, xc, rfl⟩ := make.shape hA.out.own
      obtain ⟨ya, yl, yc, rfl⟩ := make.shape hA.out.pile.owns
      obtain ⟨f0, f1, f2, f3, f4⟩ := four_cells hA.out.blk
      have RR := Lib.hid (R0.out.below hA.out.pile.below)
      obtain ⟨r0, r1, r2, r3, r4⟩ := four_cells RR.out
      have rf : ∀ k, wo'.frozen? ⟨w.heap.size + 1, k, none⟩ = false := fun k => Joins.unfrozen_of_block RR.out k
      have HOI := Lib.hid (app.ints_of_owns hA.out.own)
      have HOR := Lib.hid hA.out.pile.rows
      have BW := Lib.hid (below_tr BB.out hA.out.pile.below)
      have hHZ := HZ.out
      clear hA
      go_wp2_with fail
      refine bodyPost_ret (v := .agg #[.int .i64 (fs.length : Nat), .int .i64 (ss.length : Nat), .slice xa xl xc, .slice ya yl yc]) (by simp [results, Try.results72, go_sem, r0, r1, r2, r3]) rfl ?_
      refine ⟨_, _, rfl, ?_, ?_, ?_⟩
      · refine (HOI.out.wrote (S := fun p => p.block < WB.heap.size) ?_ (fun p hp => .inl hp)).mono (by omega) (by simp [World.setCell])
        repeat (first | exact Wrote.refl _ _ | refine Wrote.setCell ?_ (by first | omega | (simp; omega)) _)
      · refine (HOR.out.wrote (S := fun p => p.block < WB.heap.size) ?_ (fun p hp => .inl hp)).mono (by omega) (by simp [World.setCell])
        repeat (first | exact Wrote.refl _ _ | refine Wrote.setCell ?_ (by first | omega | (simp; omega)) _)
      · repeat (first | (with_reducible exact BW.out) | refine Below.setCell ?_ (by simp <;> omega) _)

end Go.Proofs.Ytimfnhejiiagmaa.gask
