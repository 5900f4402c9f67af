/- EvenOut of the model and of the program. -/
import Derived.Test.YtlaaiahkdkhehaaTwo
import Derived.Test.YtlaaiahkdkhehaaRep
import Derived.Test.YtlaaiahkdkhehaaInv
import Derived.Test.YtlaaiahkdkhehaaMixb
import Derived.Test.YtlaaiahkdkhehaaFlipd
import Derived.Test.YtlaaiahkdkhehaaFlipc
import Derived.Deep.RegionHeld3
namespace Go.Proofs.Ytlaaiahkdkhehaa.evo
open Go.RowKit Go.Deep Go.Proofs.Ytlaaiahkdkhehaa.base
open Go.Proofs.Ytlaaiahkdkhehaa.ints (ret_int infoInt infoInts)
open Go.Proofs.Ytlaaiahkdkhehaa.rws (total)
open Go.Proofs.Ytlaaiahkdkhehaa.val (okBox okSizes boxB boxB_yes boxB_no)
open Go.Proofs.Ytlaaiahkdkhehaa.row (nn nn_bd)
open Go.Proofs.Ytlaaiahkdkhehaa.two (two twoB twoB_yes twoB_no asksB asksB_yes asksB_no)

/-- the rows with all answers flipped -/
def fl (xss : List (List Int)) : List (List Int) := make.rowsOf (flipa.N xss [1, 1, 1, 1] 2 2) 4
open Classical in
noncomputable def res (x y wh : Int) (xss : List (List Int)) : make.Res := if two x y wh xss then mix.res 2 2 wh xss 2 2 wh (fl xss) else make.Res.zero
theorem res_yes {x y wh : Int} {xss : List (List Int)} (h : two x y wh xss) : res x y wh xss = mix.res 2 2 wh xss 2 2 wh (fl xss) := if_pos h
theorem res_no {x y wh : Int} {xss : List (List Int)} (h : ¬ two x y wh xss) : res x y wh xss = make.Res.zero := if_neg h
theorem tot (x y wh : Int) (xss : List (List Int)) : total (res x y wh xss).rows ≤ 1048576 := by
  by_cases h : two x y wh xss
  · rw [res_yes h]; exact mix.tot _ _ _ _ _ _ _ _
  · rw [res_no h]; exact Nat.zero_le _
theorem fo3 : ∀ r : Fin 4, flipa.fo [1, 1, 1, 1] 2 2 r.val = 3 := by decide
theorem all_ones {wh : Int} {xss : List (List Int)} (h : okBox 2 2 wh xss) : flipa.all 2 2 wh xss [1, 1, 1, 1] :=
  ⟨h, by decide, fun k hk => by
    have hk' : k < 4 := hk
    match k, hk' with
    | 0, _ => exact (by decide : (0 : Int) ≤ 1 ∧ (1 : Int) ≤ 1)
    | 1, _ => exact (by decide : (0 : Int) ≤ 1 ∧ (1 : Int) ≤ 1)
    | 2, _ => exact (by decide : (0 : Int) ≤ 1 ∧ (1 : Int) ≤ 1)
    | 3, _ => exact (by decide : (0 : Int) ≤ 1 ∧ (1 : Int) ≤ 1)⟩
theorem fl_ok {wh : Int} {xss : List (List Int)} (h : okBox 2 2 wh xss) : okBox 2 2 wh (fl xss) := by
  refine make.ok_rowsOf (x := 2) (y := 2) h.1 h.2.1 (fun r hr => ?_)
  have hl : xss.length = 4 := by have := h.2.2.1; omega
  have hr4 : r < 4 := hr
  have hro := row.row_ok h (r := r) (by omega)
  obtain ⟨hs, hb⟩ := mix.sum4 hro
  have e : ∀ k, flipa.N xss [1, 1, 1, 1] 2 2 r k = nn xss r (k ^^^ 3) := fun k => by
    unfold flipa.N
    rw [fo3 ⟨r, hr4⟩]
  refine make.okRow_quad (fun k hk => ?_) ?_
  · rw [e]
    have hx : ∀ k : Fin 4, k.val ^^^ 3 < 4 := by decide
    exact hb _ (hx ⟨k, hk⟩)
  · rw [e 0, e 1, e 2, e 3]
    show nn xss r 3 + nn xss r 2 + nn xss r 1 + nn xss r 0 = wh
    unfold nn
    omega
/-! what lies below a block stays -/
theorem bB_al {B : Nat} {w w1 : World} (hB : B ≤ w.heap.size) (h : Below B w w1) (o : Obj) : Below B w (w1.alloc o) := h.alloc (Nat.le_trans hB h.size) o
theorem bB_dr {B : Nat} {w w1 : World} (h : Below B w w1) : Below B w w1.drew := h.drew
theorem bB_tr {B : Nat} {w w1 w2 : World} (hB : B ≤ w.heap.size) (h : Below B w w1) (k : Below w1.heap.size w1 w2) : Below B w w2 := h.trans (k.mono (Nat.le_trans hB h.size))
theorem heldB {B : Nat} {w w' : World} {p1 p2 p3 p4 : Addr} {u1 u2 u3 u4 : Value} (h1 : w.cell? p1 = some u1) (h2 : w.cell? p2 = some u2) (h3 : w.cell? p3 = some u3) (h4 : w.cell? p4 = some u4)
    (e1 : p1.block < B) (e2 : p2.block < B) (e3 : p3.block < B) (e4 : p4.block < B) (hb : Below B w w') :
    w'.cell? p1 = some u1 ∧ w'.cell? p2 = some u2 ∧ w'.cell? p3 = some u3 ∧ w'.cell? p4 = some u4 ∧ Below B w w' :=
  ⟨(hb.cell e1).trans h1, (hb.cell e2).trans h2, (hb.cell e3).trans h3, (hb.cell e4).trans h4, hb⟩
theorem ones_own (W : World) : OwnInts (W.alloc (.cells #[.int .i64 1, .int .i64 1, .int .i64 1, .int .i64 1] 3)) W.heap.size (W.heap.size + 1) (.slice (some ⟨W.heap.size, 0, none⟩) 4 4) [1, 1, 1, 1] := by
  have hrow : (W.alloc (.cells #[.int .i64 1, .int .i64 1, .int .i64 1, .int .i64 1] 3)).rowIs W.heap.size 3 [1, 1, 1, 1].length (fun j => .int .i64 (([1, 1, 1, 1] : List Int).getD j 0)) := ⟨_, heap_alloc_new _ _, rfl, fun i hi => by
    have hi' : i < 4 := hi
    match i, hi' with
    | 0, _ => rfl
    | 1, _ => rfl
    | 2, _ => rfl
    | 3, _ => rfl⟩
  exact ints.own_of_row (xs := [1, 1, 1, 1]) hrow (Nat.le_refl _) (by simp) (by simp [maxLen])


set_option maxHeartbeats 4000000 in
theorem spec_any (x y wh : Int) (v : Value) (xss : List (List Int)) (w : World) (h : IRows w v xss) (hn : total xss ≤ 1048576) :
    Calls Try.prog 41 #[.agg #[.int .i64 x, .int .i64 y, .int .i64 wh, v]] w fun e w' => ∃ r, e = .returned (.tuple #[.agg #[.int .i64 (res x y wh xss).x, .int .i64 (res x y wh xss).y, .int .i64 (res x y wh xss).wh, r], .bool (res x y wh xss).ok]) ∧ IRows w' r (res x y wh xss).rows ∧ Below w.heap.size w w' := by
  obtain ⟨va, vn, vc, rfl⟩ := h.shape
  have H := Lib.hid h
  have B0 := Lib.hid (below_al (below_al (Below.refl w.heap.size w) (.cells #[.int .i64 x, .int .i64 y, .int .i64 wh, .slice va vn vc] 24)) (.cells #[.int .i64 0, .int .i64 0, .int .i64 0, .slice none 0 0] 24))
  have K0 := Lib.hid ((Blk.new w 24 #[.int .i64 x, .int .i64 y, .int .i64 wh, .slice va vn vc]).alloc (.cells #[.int .i64 0, .int .i64 0, .int .i64 0, .slice none 0 0] 24))
  have R0 : Hid (Blk ((w.alloc (.cells #[.int .i64 x, .int .i64 y, .int .i64 wh, .slice va vn vc] 24)).alloc (.cells #[.int .i64 0, .int .i64 0, .int .i64 0, .slice none 0 0] 24)) (w.heap.size + 1) 24 #[.int .i64 0, .int .i64 0, .int .i64 0, .slice none 0 0]) := Lib.hid (by
    have := Blk.new (w.alloc (.cells #[.int .i64 x, .int .i64 y, .int .i64 wh, .slice va vn vc] 24)) 24 #[.int .i64 0, .int .i64 0, .int .i64 0, .slice none 0 0]
    simpa using this)
  have hr := two.l6two x y wh _ xss _ (h.below B0.out) hn
  clear h
  by_cases ht : two x y wh xss
  · rw [twoB_yes ht] at hr
    rw [res_yes ht]
    obtain ⟨hok, rfl, rfl⟩ := ht
    have HFL : Hid (∀ (vf : Value) (W : World), IRows W (.slice va vn vc) xss → Ints W vf [1, 1, 1, 1] → Calls Try.prog 91 #[.agg #[.int .i64 2, .int .i64 2, .int .i64 wh, .slice va vn vc], vf] W fun e w' => ∃ r, e = .returned (.agg #[.int .i64 2, .int .i64 2, .int .i64 wh, r]) ∧ OwnRows w' W.heap.size w'.heap.size r (fl xss) ∧ Below W.heap.size W w') := Lib.hid (fun vf W hv hf => flipa.l2flip 2 2 wh (.slice va vn vc) vf xss [1, 1, 1, 1] W hv hf (all_ones hok))
    have HMX := Lib.hid (fun (u : Value) (W : World) (hv : IRows W (.slice va vn vc) xss) (hu : IRows W u (fl xss)) => mix.l2mix 2 2 wh wh (.slice va vn vc) u xss (fl xss) W hv hu hok (fl_ok hok))
    have HR := Lib.hid hr
    have HOK := Lib.hid hok
    clear hr hok
    go_enter Try.func41, Try.ntmps41
    go_wp2_with fail
    refine HR.out.mono ?_
    rintro e w1 ⟨rfl, hb⟩
    have B1 := Lib.hid (below_tr B0.out hb)
    have K1 := Lib.hid (K0.out.below hb)
    have R1 := Lib.hid (R0.out.below hb)
    obtain ⟨c0, c1, c2, c3, c4⟩ := four_cells K1.out
    obtain ⟨r0, r1, r2, r3, r4⟩ := four_cells R1.out
    have H1 := Lib.hid (H.out.below B1.out)
    clear hb HR B0 K0 R0
    go_wp2_with fail
    have rf : ∀ k, w1.frozen? ⟨w.heap.size + 1, k, none⟩ = false := fun k => Joins.unfrozen_of_block R1.out k
    have hBz : w.heap.size + 1 ≤ w1.heap.size := c4
    have HVW := Lib.hid (fun (W : World) (hb : Below (w.heap.size + 1) w1 W) => H.out.below (B1.out.trans (hb.mono (by omega))))
    have hl4 : xss.length = 4 := by have := HOK.out.2.2.1; omega
    rw [hl4] at HMX
    have HT := Lib.hid (make.total_rowsOf (mix.N xss (fl xss)) 4 (by omega))
    clear hl4
    by_cases h3 : wh + wh ≤ 1000
    · have HKP := Lib.hid (fun (u : Value) (W : World) (hu : IRows W u (make.rowsOf (mix.N xss (fl xss)) 4)) => make.kept_yes 2 2 (wh + wh) u _ W hu HT.out (mix.box_ok (X := 2) (Y := 2) HOK.out (fl_ok HOK.out) h3))
      have HE := Lib.hid (mix.res_yes (x := 2) (y := 2) (wh := wh) (xss := xss) (x' := 2) (y' := 2) (wh' := wh) (yss := fl xss) ⟨⟨HOK.out, fl_ok HOK.out, rfl, rfl⟩, h3⟩)
      clear h3
      go_region_held3 (fun w' => w'.cell? ⟨w.heap.size, 0, none⟩ = some (.int .i64 2) ∧ w'.cell? ⟨w.heap.size, 1, none⟩ = some (.int .i64 2) ∧ w'.cell? ⟨w.heap.size, 2, none⟩ = some (.int .i64 wh) ∧ w'.cell? ⟨w.heap.size, 3, none⟩ = some (.slice va vn vc) ∧ Below (w.heap.size + 1) w1 w')
        ((refine heldB c0 c1 c2 c3 (Nat.lt_succ_self _) (Nat.lt_succ_self _) (Nat.lt_succ_self _) (Nat.lt_succ_self _) ?_; repeat (first | (with_reducible exact Below.refl _ _) | (with_reducible assumption) | (with_reducible refine Below.setCell ?_ (by simp) _) | (with_reducible refine bB_dr ?_) | (with_reducible refine bB_al hBz ?_ _) | (with_reducible refine bB_tr hBz ?_ (by assumption)))))
        (first
          | (go_at_call 91; (with_reducible refine (HFL.out _ _ (HVW.out _ ?_) ?_).mono ?_); (exact bB_al hBz (bB_dr (Below.refl _ _)) _); (exact (ones_own _).ints); rintro e w6 ⟨u1, rfl, hu1, hb1⟩; obtain ⟨ua, ul, uc, rfl⟩ := hu1.rows.shape)
          | (go_at_call 82; (with_reducible refine (HMX.out _ _ (HVW.out _ ?_) hu1.rows).mono ?_); (exact bB_tr hBz (bB_al hBz (bB_dr (Below.refl _ _)) _) hb1); rintro e w7 ⟨u2, rfl, hu2, hb2⟩; obtain ⟨xa, xl, xc, rfl⟩ := hu2.rows.shape)
          | (go_at_call 79; (with_reducible refine (HKP.out _ _ hu2.rows).mono ?_); rintro e w8 ⟨rfl, hb3⟩; have R8 := Lib.hid (R1.out.below (below_tr (below_tr (below_tr (below_al (below_dr (Below.refl _ _)) _) hb1) hb2) hb3)); obtain ⟨q0, q1, q2, q3, q4⟩ := four_cells R8.out; have rf8 : ∀ k, w8.frozen? ⟨w.heap.size + 1, k, none⟩ = false := fun k => Joins.unfrozen_of_block R8.out k))
      have B8 := Lib.hid (bB_tr hBz (bB_tr hBz (bB_tr hBz (bB_al hBz (bB_dr (Below.refl (w.heap.size + 1) w1)) _) hb1) hb2) hb3)
      have hs6 := hb1.size
      have U8 := Lib.hid ((hu2.mono (B' := w.heap.size + 1 + 1) (by simp at hs6; omega)).below hb3)
      have HB8 := Lib.hid (B1.out.trans (B8.out.mono (by omega)))
      clear hs6
      go_wp2_with fail
      refine bodyPost_ret (v := .tuple #[.agg #[.int .i64 2, .int .i64 2, .int .i64 (wh + wh), .slice xa xl xc], .bool true]) (by simp [results, Try.results41, go_sem, q0, q1, q2, q3]) rfl ?_
      rw [HE.out]
      refine ⟨_, rfl, ?_, ?_⟩
      · show IRows _ _ (make.rowsOf (mix.N xss (fl xss)) 4)
        refine (U8.out.low ?_).rows
        repeat (first | (with_reducible exact Wrote.refl _ _) | (with_reducible refine Wrote.setCell ?_ (by simp) _))
      · repeat (first | (with_reducible exact HB8.out) | (with_reducible refine Below.setCell ?_ (by simp) _))
    · have HKP := Lib.hid (fun (u : Value) (W : World) (hu : IRows W u (make.rowsOf (mix.N xss (fl xss)) 4)) => make.kept_no 2 2 (wh + wh) u _ W hu HT.out (mix.box_bad (X := 2) (Y := 2) h3))
      have HE := Lib.hid (mix.res_no (x := 2) (y := 2) (wh := wh) (xss := xss) (x' := 2) (y' := 2) (wh' := wh) (yss := fl xss) (fun h => h3 h.2))
      clear h3
      go_region_held3 (fun w' => w'.cell? ⟨w.heap.size, 0, none⟩ = some (.int .i64 2) ∧ w'.cell? ⟨w.heap.size, 1, none⟩ = some (.int .i64 2) ∧ w'.cell? ⟨w.heap.size, 2, none⟩ = some (.int .i64 wh) ∧ w'.cell? ⟨w.heap.size, 3, none⟩ = some (.slice va vn vc) ∧ Below (w.heap.size + 1) w1 w')
        ((refine heldB c0 c1 c2 c3 (Nat.lt_succ_self _) (Nat.lt_succ_self _) (Nat.lt_succ_self _) (Nat.lt_succ_self _) ?_; repeat (first | (with_reducible exact Below.refl _ _) | (with_reducible assumption) | (with_reducible refine Below.setCell ?_ (by simp) _) | (with_reducible refine bB_dr ?_) | (with_reducible refine bB_al hBz ?_ _) | (with_reducible refine bB_tr hBz ?_ (by assumption)))))
        (first
          | (go_at_call 91; (with_reducible refine (HFL.out _ _ (HVW.out _ ?_) ?_).mono ?_); (exact bB_al hBz (bB_dr (Below.refl _ _)) _); (exact (ones_own _).ints); rintro e w6 ⟨u1, rfl, hu1, hb1⟩; obtain ⟨ua, ul, uc, rfl⟩ := hu1.rows.shape)
          | (go_at_call 82; (with_reducible refine (HMX.out _ _ (HVW.out _ ?_) hu1.rows).mono ?_); (exact bB_tr hBz (bB_al hBz (bB_dr (Below.refl _ _)) _) hb1); rintro e w7 ⟨u2, rfl, hu2, hb2⟩; obtain ⟨xa, xl, xc, rfl⟩ := hu2.rows.shape)
          | (go_at_call 79; (with_reducible refine (HKP.out _ _ hu2.rows).mono ?_); rintro e w8 ⟨rfl, hb3⟩; have R8 := Lib.hid (R1.out.below (below_tr (below_tr (below_tr (below_al (below_dr (Below.refl _ _)) _) hb1) hb2) hb3)); obtain ⟨q0, q1, q2, q3, q4⟩ := four_cells R8.out; have rf8 : ∀ k, w8.frozen? ⟨w.heap.size + 1, k, none⟩ = false := fun k => Joins.unfrozen_of_block R8.out k))
      have B8 := Lib.hid (bB_tr hBz (bB_tr hBz (bB_tr hBz (bB_al hBz (bB_dr (Below.refl (w.heap.size + 1) w1)) _) hb1) hb2) hb3)
      have hs6 := hb1.size
      have U8 := Lib.hid ((hu2.mono (B' := w.heap.size + 1 + 1) (by simp at hs6; omega)).below hb3)
      have HB8 := Lib.hid (B1.out.trans (B8.out.mono (by omega)))
      clear hs6
      go_wp2_with fail
      refine bodyPost_ret (v := .tuple #[.agg #[.int .i64 0, .int .i64 0, .int .i64 0, .slice none 0 0], .bool false]) (by simp [results, Try.results41, go_sem, q0, q1, q2, q3]) rfl ?_
      rw [HE.out]
      refine ⟨_, rfl, IRows.nil _, ?_⟩
      repeat (first | (with_reducible exact HB8.out) | (with_reducible refine Below.setCell ?_ (by simp) _))
  · rw [twoB_no ht] at hr
    rw [res_no ht]
    have HR := Lib.hid hr
    clear hr ht
    go_enter Try.func41, Try.ntmps41
    go_wp2_with fail
    refine HR.out.mono ?_
    rintro e w1 ⟨rfl, hb⟩
    have B1 := Lib.hid (below_tr B0.out hb)
    have R1 := Lib.hid (R0.out.below hb)
    obtain ⟨r0, r1, r2, r3, r4⟩ := four_cells R1.out
    have rf : ∀ k, w1.frozen? ⟨w.heap.size + 1, k, none⟩ = false := fun k => Joins.unfrozen_of_block R1.out k
    clear hb HR B0 K0 R0
    go_wp2_with fail
    refine bodyPost_ret (v := .tuple #[.agg #[.int .i64 0, .int .i64 0, .int .i64 0, .slice none 0 0], .bool false]) (by simp [results, Try.results41, go_sem, r0, r1, r2, r3]) rfl ⟨_, rfl, IRows.nil _, ?_⟩
    repeat (first | (with_reducible exact B1.out) | refine Below.setCell ?_ (by simp <;> omega) _)


/-! the region of the program: what has come up -/
def zer : Array Value := #[.int .i64 0, .int .i64 0, .int .i64 0, .slice none 0 0]
def cel (c : Bool) (q : make.Res) (r : Value) : Array Value := if c = true then #[.int .i64 q.x, .int .i64 q.y, .int .i64 q.wh, r] else zer
theorem cel_off {c : Bool} (h : c = false) (q : make.Res) (r : Value) : cel c q r = zer := by rw [h]; rfl
theorem cel_on {c : Bool} (h : c = true) (q : make.Res) (r : Value) : cel c q r = #[.int .i64 q.x, .int .i64 q.y, .int .i64 q.wh, r] := by rw [h]; rfl
theorem off_of {b c : Bool} (h : c = true → b = true) (hb : b = false) : c = false := by
  cases e : c with
  | false => rfl
  | true => rw [h e] at hb; cases hb
theorem no {b : Bool} {P : Prop} (h : b = true) (h' : b = false) : P := by rw [h] at h'; cases h'
structure EJ (b : World) (V : Value) (q : make.Res) (L : Nat → Bool) (g : Nat) (r s14 s15 s16 s17 s13 s18 s19 s4 s5 : Value) (W : World) : Prop where
  f0 : L 0 = true → s14 = V
  f1 : L 1 = true → L 2 = false → ∃ k, s15 = .slice (some ⟨k, 0, none⟩) 1 1 ∧ W.cell? ⟨k, 0, none⟩ = some (.int .i64 1)
  f2 : L 2 = true → L 3 = false → Ints W s16 [1, 1, 1, 1]
  f3 : L 3 = true → s17 = .tuple #[.agg #[.int .i64 q.x, .int .i64 q.y, .int .i64 q.wh, r], .bool q.ok] ∧ ∃ B T, OwnRows W B T r q.rows ∧ b.heap.size ≤ B ∧ T ≤ W.heap.size ∧ (L 7 = true → g < B ∨ T ≤ g)
  f4 : L 4 = true → s13 = .tuple #[.agg #[.int .i64 q.x, .int .i64 q.y, .int .i64 q.wh, r], .bool q.ok]
  f5 : L 5 = true → s18 = .agg #[.int .i64 q.x, .int .i64 q.y, .int .i64 q.wh, r]
  f6 : L 6 = true → s19 = .bool q.ok
  f7 : L 7 = true → s4 = .pointer (some ⟨g, 0, none⟩) ∧ b.heap.size ≤ g ∧ Blk W g 24 (cel (L 8) q r)
  f9 : L 9 = true → s5 = .bool q.ok
  d32 : L 3 = true → L 2 = true
  d21 : L 2 = true → L 1 = true
  d43 : L 4 = true → L 3 = true
  d54 : L 5 = true → L 4 = true
  d64 : L 6 = true → L 4 = true
  d85 : L 8 = true → L 5 = true
  d87 : L 8 = true → L 7 = true
  fb : Below b.heap.size b W


set_option maxHeartbeats 8000000 in
theorem impl_any (x y wh : Int) (v : Value) (xss : List (List Int)) (w : World) (h : IRows w v xss) (hn : total xss ≤ 1048576) :
    Calls Try.prog 42 #[.agg #[.int .i64 x, .int .i64 y, .int .i64 wh, v]] w fun e w' => ∃ r, e = .returned (.tuple #[.agg #[.int .i64 (res x y wh xss).x, .int .i64 (res x y wh xss).y, .int .i64 (res x y wh xss).wh, r], .bool (res x y wh xss).ok]) ∧ OwnRows w' w.heap.size w'.heap.size r (res x y wh xss).rows ∧ Below w.heap.size w w' := by
  obtain ⟨va, vn, vc, rfl⟩ := h.shape
  have H := Lib.hid h
  have B0 := Lib.hid (below_al (below_al (Below.refl w.heap.size w) (.cells #[.int .i64 x, .int .i64 y, .int .i64 wh, .slice va vn vc] 24)) (.cells #[.int .i64 0, .int .i64 0, .int .i64 0, .slice none 0 0] 24))
  have K0 := Lib.hid ((Blk.new w 24 #[.int .i64 x, .int .i64 y, .int .i64 wh, .slice va vn vc]).alloc (.cells #[.int .i64 0, .int .i64 0, .int .i64 0, .slice none 0 0] 24))
  have R0 : Hid (Blk ((w.alloc (.cells #[.int .i64 x, .int .i64 y, .int .i64 wh, .slice va vn vc] 24)).alloc (.cells #[.int .i64 0, .int .i64 0, .int .i64 0, .slice none 0 0] 24)) (w.heap.size + 1) 24 #[.int .i64 0, .int .i64 0, .int .i64 0, .slice none 0 0]) := Lib.hid (by
    have := Blk.new (w.alloc (.cells #[.int .i64 x, .int .i64 y, .int .i64 wh, .slice va vn vc] 24)) 24 #[.int .i64 0, .int .i64 0, .int .i64 0, .slice none 0 0]
    simpa using this)
  clear h
  have HAS := Lib.hid (two.asks x y)
  obtain ⟨c0, c1, c2, c3, c4⟩ := four_cells K0.out
  by_cases h2 : x = 2 ∧ y = 2
  · obtain ⟨rfl, rfl⟩ := h2
    rw [asksB_yes] at HAS
    go_enter Try.func42, Try.ntmps42
    go_wp2_with fail
    refine (HAS.out _).mono ?_
    rintro e w1 ⟨rfl, rfl⟩
    go_wp2_with fail
    obtain ⟨q, hq⟩ : ∃ q, q = flipa.res 2 2 wh xss [1, 1, 1, 1] := ⟨_, rfl⟩
    have HQ := Lib.hid hq
    clear hq
    have HFA := Lib.hid (fun (v : Value) (W : World) (hv : IRows W (.slice va vn vc) xss) (hf : Ints W v [1, 1, 1, 1]) => flipa.impl_any 2 2 wh (.slice va vn vc) v xss [1, 1, 1, 1] W hv hf hn)
    rw [← HQ.out] at HFA
    refine inv.start (by kernel_rfl) (fun l a' W => ∃ (g : Nat) (r s14 s15 s16 s17 s13 s18 s19 s4 s5 : Value), a' = { tmps := #[.agg #[.int .i64 2, .int .i64 2, .int .i64 wh, .slice va vn vc], .pointer (some ⟨w.heap.size, 0, none⟩), .pointer (some ⟨w.heap.size + 1, 0, none⟩), .bool false, s4, s5, .pointer (some ⟨w.heap.size, 0, none⟩), .int .i64 2, .pointer (some ⟨w.heap.size, 1, none⟩), .int .i64 2, .bool true, .bool false, undef, s13, s14, s15, s16, s17, s18, s19, undef, undef, undef, undef, undef, undef, undef, undef], defers := [] } ∧ l.size = 10 ∧ EJ ((w.alloc (.cells #[.int .i64 2, .int .i64 2, .int .i64 wh, .slice va vn vc] 24)).alloc (.cells #[.int .i64 0, .int .i64 0, .int .i64 0, .slice none 0 0] 24)) (.agg #[.int .i64 2, .int .i64 2, .int .i64 wh, .slice va vn vc]) q (fun k => l.getD k false) g r s14 s15 s16 s17 s13 s18 s19 s4 s5 W) ?_ ?_ ?_
    · refine ⟨0, undef, _, _, _, _, _, _, _, _, _, rfl, by simp, ?_⟩
      exact ⟨fun h => by simp at h, fun h => by simp at h, fun h => by simp at h, fun h => by simp at h, fun h => by simp at h, fun h => by simp at h, fun h => by simp at h, fun h => by simp at h, fun h => by simp at h, fun h => by simp at h, fun h => by simp at h, fun h => by simp at h, fun h => by simp at h, fun h => by simp at h, fun h => by simp at h, fun h => by simp at h, below_dr (Below.refl _ _)⟩
    · rintro l a' W i ⟨g, r, s14, s15, s16, s17, s13, s18, s19, s4, s5, rfl, hsz, h⟩ hi
      have hlt : i < 10 := (inv.ready_lt hi).1
      obtain rfl | rfl | rfl | rfl | rfl | rfl | rfl | rfl | rfl | rfl : i = 0 ∨ i = 1 ∨ i = 2 ∨ i = 3 ∨ i = 4 ∨ i = 5 ∨ i = 6 ∨ i = 7 ∨ i = 8 ∨ i = 9 := by omega
      · obtain ⟨hun, o, ho, hall⟩ := mem_ready.1 hi
        obtain rfl : _ = o := Option.some.inj ho
        have hoff : l.getD 0 false = false := inv.off l 0 hun
        have hup := inv.upd_eq l 0 hun
        obtain ⟨c0, c1, c2, c3, c4⟩ := four_cells (K0.out.below h.fb)
        refine wpOp_step rfl (fun K' hK => ?_)
        have HK := Lib.hid hK
        clear hK hall ho
        go_simp
        refine HK.out _ _ ⟨g, r, _, _, _, _, _, _, _, _, _, rfl, by simp [hsz], ?_⟩
        rw [hup]
        exact ⟨fun _ => rfl, h.f1, h.f2, h.f3, h.f4, h.f5, h.f6, h.f7, h.f9, h.d32, h.d21, h.d43, h.d54, h.d64, h.d85, h.d87, h.fb⟩
      · obtain ⟨hun, o, ho, hall⟩ := mem_ready.1 hi
        obtain rfl : _ = o := Option.some.inj ho
        have hoff : l.getD 1 false = false := inv.off l 1 hun
        have hup := inv.upd_eq l 1 hun
        refine wpOp_step rfl (fun K' hK => ?_)
        have HK := Lib.hid hK
        clear hK hall ho
        go_simp
        refine HK.out _ (W.alloc (.cells #[.int .i64 1] 3)) ⟨g, r, _, _, _, _, _, _, _, _, _, rfl, by simp [hsz], ?_⟩
        rw [hup]
        have al := (below_al (Below.refl _ W) (.cells #[.int .i64 1] 3))
        exact ⟨h.f0, fun _ _ => ⟨W.heap.size, rfl, by rw [Joins.cell_of_block (heap_alloc_new W _)]; rfl⟩, fun h2 => no (h.d21 h2) hoff, fun h3 => no (h.d21 (h.d32 h3)) hoff, h.f4, h.f5, h.f6, fun h7 => ⟨(h.f7 h7).1, (h.f7 h7).2.1, (h.f7 h7).2.2.below al⟩, h.f9, h.d32, fun _ => rfl, h.d43, h.d54, h.d64, h.d85, h.d87, below_tr h.fb al⟩
      · obtain ⟨hun, o, ho, hall⟩ := mem_ready.1 hi
        obtain rfl : _ = o := Option.some.inj ho
        have hoff : l.getD 2 false = false := inv.off l 2 hun
        have hup := inv.upd_eq l 2 hun
        have d1 : l.getD 1 false = true := hall ⟨1, .data⟩ (by simp) (by decide)
        obtain ⟨k, rfl, hk1⟩ := h.f1 d1 hoff
        refine wpOp_step rfl (fun K' hK => ?_)
        have HK := Lib.hid hK
        clear hK hall ho
        go_simp
        (go_at_call 93; (with_reducible refine (rep.repeat4 k 0 1 _ hk1).mono ?_); rintro e W' ⟨u, rfl, hu, hb⟩)
        try go_simp
        refine HK.out _ _ ⟨g, r, _, _, _, _, _, _, _, _, _, rfl, by simp [hsz], ?_⟩
        rw [hup]
        exact ⟨h.f0, fun _ h2 => no (b := true) rfl h2, fun _ _ => hu.ints, fun h3 => no (h.d32 h3) hoff, h.f4, h.f5, h.f6, fun h7 => ⟨(h.f7 h7).1, (h.f7 h7).2.1, (h.f7 h7).2.2.below hb⟩, h.f9, fun _ => rfl, fun _ => d1, h.d43, h.d54, h.d64, h.d85, h.d87, below_tr h.fb hb⟩
      · obtain ⟨hun, o, ho, hall⟩ := mem_ready.1 hi
        obtain rfl : _ = o := Option.some.inj ho
        have hoff : l.getD 3 false = false := inv.off l 3 hun
        have hup := inv.upd_eq l 3 hun
        have d0 : l.getD 0 false = true := hall ⟨0, .data⟩ (by simp) (by decide)
        have d2 : l.getD 2 false = true := hall ⟨2, .data⟩ (by simp) (by decide)
        obtain rfl := h.f0 d0
        have hi2 := h.f2 d2 hoff
        refine wpOp_step rfl (fun K' hK => ?_)
        have HK := Lib.hid hK
        clear hK hall ho
        go_simp
        (go_at_call 92; (with_reducible refine (HFA.out _ _ (H.out.below (below_tr B0.out h.fb)) hi2).mono ?_); rintro e W' ⟨r', rfl, hr, hb⟩)
        try go_simp
        refine HK.out _ _ ⟨g, r', _, _, _, _, _, _, _, _, _, rfl, by simp [hsz], ?_⟩
        rw [hup]
        have e8 : l.getD 8 false = false := off_of (fun h8 => h.d43 (h.d54 (h.d85 h8))) hoff
        have k7 : l.getD 7 false = true → Blk W' g 24 (cel (l.getD 8 false) q r') := fun h7 => by (have k := (h.f7 h7).2.2.below hb); (rw [cel_off e8] at k); (rw [cel_off e8]); (exact k)
        exact ⟨h.f0, fun h1 h2 => (h.f1 h1 h2).imp fun _ k => ⟨k.1, below_cell hb _ _ k.2⟩, fun _ h3 => no (b := true) rfl h3, fun _ => ⟨rfl, W.heap.size, W'.heap.size, hr, h.fb.size, Nat.le_refl _, fun h7 => .inl (h.f7 h7).2.2.lt⟩, fun h4 => no (h.d43 h4) hoff, fun h5 => no (h.d43 (h.d54 h5)) hoff, fun h6 => no (h.d43 (h.d64 h6)) hoff, fun h7 => ⟨(h.f7 h7).1, (h.f7 h7).2.1, k7 h7⟩, h.f9, fun _ => d2, h.d21, fun _ => rfl, h.d54, h.d64, h.d85, h.d87, below_tr h.fb hb⟩
      · obtain ⟨hun, o, ho, hall⟩ := mem_ready.1 hi
        obtain rfl : _ = o := Option.some.inj ho
        have hoff : l.getD 4 false = false := inv.off l 4 hun
        have hup := inv.upd_eq l 4 hun
        have d3 : l.getD 3 false = true := hall ⟨3, .data⟩ (by simp) (by decide)
        obtain rfl := (h.f3 d3).1
        refine wpOp_step rfl (fun K' hK => ?_)
        have HK := Lib.hid hK
        clear hK hall ho
        go_simp
        refine HK.out _ _ ⟨g, r, _, _, _, _, _, _, _, _, _, rfl, by simp [hsz], ?_⟩
        rw [hup]
        exact ⟨h.f0, h.f1, h.f2, h.f3, fun _ => rfl, h.f5, h.f6, h.f7, h.f9, h.d32, h.d21, fun _ => d3, fun _ => rfl, fun _ => rfl, h.d85, h.d87, h.fb⟩
      · obtain ⟨hun, o, ho, hall⟩ := mem_ready.1 hi
        obtain rfl : _ = o := Option.some.inj ho
        have hoff : l.getD 5 false = false := inv.off l 5 hun
        have hup := inv.upd_eq l 5 hun
        have d4 : l.getD 4 false = true := hall ⟨4, .data⟩ (by simp) (by decide)
        obtain rfl := h.f4 d4
        refine wpOp_step rfl (fun K' hK => ?_)
        have HK := Lib.hid hK
        clear hK hall ho
        go_simp
        refine HK.out _ _ ⟨g, r, _, _, _, _, _, _, _, _, _, rfl, by simp [hsz], ?_⟩
        rw [hup]
        exact ⟨h.f0, h.f1, h.f2, h.f3, h.f4, fun _ => rfl, h.f6, h.f7, h.f9, h.d32, h.d21, h.d43, fun _ => d4, h.d64, fun _ => rfl, h.d87, h.fb⟩
      · obtain ⟨hun, o, ho, hall⟩ := mem_ready.1 hi
        obtain rfl : _ = o := Option.some.inj ho
        have hoff : l.getD 6 false = false := inv.off l 6 hun
        have hup := inv.upd_eq l 6 hun
        have d4 : l.getD 4 false = true := hall ⟨4, .data⟩ (by simp) (by decide)
        obtain rfl := h.f4 d4
        refine wpOp_step rfl (fun K' hK => ?_)
        have HK := Lib.hid hK
        clear hK hall ho
        go_simp
        refine HK.out _ _ ⟨g, r, _, _, _, _, _, _, _, _, _, rfl, by simp [hsz], ?_⟩
        rw [hup]
        exact ⟨h.f0, h.f1, h.f2, h.f3, h.f4, h.f5, fun _ => rfl, h.f7, h.f9, h.d32, h.d21, h.d43, h.d54, fun _ => d4, h.d85, h.d87, h.fb⟩
      · obtain ⟨hun, o, ho, hall⟩ := mem_ready.1 hi
        obtain rfl : _ = o := Option.some.inj ho
        have hoff : l.getD 7 false = false := inv.off l 7 hun
        have hup := inv.upd_eq l 7 hun
        refine wpOp_step rfl (fun K' hK => ?_)
        have HK := Lib.hid hK
        clear hK hall ho
        go_simp
        refine HK.out _ (W.alloc (.cells #[.int .i64 0, .int .i64 0, .int .i64 0, .slice none 0 0] 24)) ⟨W.heap.size, r, _, _, _, _, _, _, _, _, _, rfl, by simp [hsz], ?_⟩
        rw [hup]
        have e8 : l.getD 8 false = false := off_of h.d87 hoff
        have al := (below_al (Below.refl _ W) (.cells #[.int .i64 0, .int .i64 0, .int .i64 0, .slice none 0 0] 24))
        have k7 : Blk (W.alloc (.cells #[.int .i64 0, .int .i64 0, .int .i64 0, .slice none 0 0] 24)) W.heap.size 24 (cel (l.getD 8 false) q r) := by rw [cel_off e8]; exact Blk.new W _ _
        exact ⟨h.f0, fun h1 h2 => (h.f1 h1 h2).imp fun _ k => ⟨k.1, below_cell al _ _ k.2⟩, fun h2 h3 => (h.f2 h2 h3).below al, fun h3 => ⟨(h.f3 h3).1, by obtain ⟨B, T, k1, k2, k3, k4⟩ := (h.f3 h3).2; exact ⟨B, T, k1.keep al, k2, Nat.le_trans k3 al.size, fun _ => .inr k3⟩⟩, h.f4, h.f5, h.f6, fun _ => ⟨rfl, h.fb.size, k7⟩, h.f9, h.d32, h.d21, h.d43, h.d54, h.d64, h.d85, fun _ => rfl, below_tr h.fb al⟩
      · obtain ⟨hun, o, ho, hall⟩ := mem_ready.1 hi
        obtain rfl : _ = o := Option.some.inj ho
        have hoff : l.getD 8 false = false := inv.off l 8 hun
        have hup := inv.upd_eq l 8 hun
        have d7 : l.getD 7 false = true := hall ⟨7, .data⟩ (by simp) (by decide)
        have d5 : l.getD 5 false = true := hall ⟨5, .data⟩ (by simp) (by decide)
        have d3 : l.getD 3 false = true := hall ⟨3, .chain⟩ (by simp) (by decide)
        have d2 := h.d32 d3
        obtain ⟨B, T, hown, hB, hT, hgg⟩ := (h.f3 d3).2
        obtain ⟨ra, rn, rc, rfl⟩ := hown.rows.shape
        obtain rfl := h.f5 d5
        obtain ⟨e4, hg, hk⟩ := h.f7 d7
        subst e4
        have hk : Blk W g 24 (cel (l.getD 8 false) q (.slice ra rn rc)) := hk
        rw [cel_off hoff] at hk
        unfold zer at hk
        obtain ⟨c0, c1, c2, c3, c4⟩ := four_cells hk
        have rf : ∀ k, W.frozen? ⟨g, k, none⟩ = false := fun k => Joins.unfrozen_of_block hk k
        refine wpOp_step rfl (fun K' hK => ?_)
        have HK := Lib.hid hK
        clear hK hall ho
        go_simp
        refine HK.out _ (mix.set4 W g (.int .i64 q.x) (.int .i64 q.y) (.int .i64 q.wh) (.slice ra rn rc)) ⟨g, (.slice ra rn rc), _, _, _, _, _, _, _, _, _, rfl, by simp [hsz], ?_⟩
        rw [hup]
        exact ⟨h.f0, fun _ h2 => no d2 h2, fun _ h3 => no d3 h3, fun _ => ⟨(h.f3 d3).1, B, T, hown.wrote (mix.set4_wrote W g (.int .i64 q.x) (.int .i64 q.y) (.int .i64 q.wh) (.slice ra rn rc)) (fun p hp => by have hp : p.block = g := hp; rw [hp]; exact hgg d7), hB, by rw [mix.set4_size]; exact hT, fun _ => hgg d7⟩, h.f4, h.f5, h.f6, fun _ => ⟨rfl, hg, mix.set4_same _ _ _ _ hk⟩, h.f9, h.d32, h.d21, h.d43, h.d54, h.d64, fun _ => d5, fun _ => d7, mix.set4_below _ _ _ _ h.fb hg⟩
      · obtain ⟨hun, o, ho, hall⟩ := mem_ready.1 hi
        obtain rfl : _ = o := Option.some.inj ho
        have hoff : l.getD 9 false = false := inv.off l 9 hun
        have hup := inv.upd_eq l 9 hun
        have d6 : l.getD 6 false = true := hall ⟨6, .data⟩ (by simp) (by decide)
        obtain rfl := h.f6 d6
        refine wpOp_step rfl (fun K' hK => ?_)
        have HK := Lib.hid hK
        clear hK hall ho
        go_simp
        refine HK.out _ _ ⟨g, r, _, _, _, _, _, _, _, _, _, rfl, by simp [hsz], ?_⟩
        rw [hup]
        exact ⟨h.f0, h.f1, h.f2, h.f3, h.f4, h.f5, h.f6, h.f7, fun _ => rfl, h.d32, h.d21, h.d43, h.d54, h.d64, h.d85, h.d87, h.fb⟩
    · rintro l a' W ⟨g, r, s14, s15, s16, s17, s13, s18, s19, s4, s5, rfl, hsz, h⟩ hr
      have hup : ∀ i, i < 10 → l.getD i false = true := inv.all_upm (by kernel_rfl) hsz hr
      obtain ⟨e17, B, T, ho, hB, hT, hgg⟩ := h.f3 (hup 3 (by omega))
      have hgd := hgg (hup 7 (by omega))
      obtain ⟨ra, rn, rc, rfl⟩ := ho.rows.shape
      have e14 := h.f0 (hup 0 (by omega))
      have e13 := h.f4 (hup 4 (by omega))
      have e18 := h.f5 (hup 5 (by omega))
      have e19 := h.f6 (hup 6 (by omega))
      have e5 := h.f9 (hup 9 (by omega))
      obtain ⟨e4, hg, hk⟩ := h.f7 (hup 7 (by omega))
      have hk : Blk W g 24 (cel (l.getD 8 false) q (.slice ra rn rc)) := hk
      rw [cel_on (hup 8 (by omega))] at hk
      subst e17 e14 e13 e18 e19 e5 e4
      have BW := Lib.hid h.fb
      have HO := Lib.hid ho
      have HK := Lib.hid hk
      have HGD := Lib.hid hgd
      have hzz : ((w.alloc (.cells #[.int .i64 2, .int .i64 2, .int .i64 wh, .slice va vn vc] 24)).alloc (.cells #[.int .i64 0, .int .i64 0, .int .i64 0, .slice none 0 0] 24)).heap.size = w.heap.size + 1 + 1 := by simp
      rw [hzz] at hg hB
      clear h hup hr hsz ho hk hgg hgd hzz HFA HAS c0 c1 c2 c3 c4
      have R2 := Lib.hid (R0.out.below BW.out)
      have K2 := Lib.hid (K0.out.below BW.out)
      have B2 := Lib.hid (below_tr B0.out BW.out)
      have hTr : Hid (T ≤ W.heap.size) := Lib.hid hT
      clear hT hg hB
      by_cases hok : okBox 2 2 wh xss
      · have e : q = ⟨2, 2, wh, fl xss, true⟩ := HQ.out.trans (flipa.res_nat (X := 2) (Y := 2) (all_ones hok))
        have HT := Lib.hid (make.total_rowsOf (flipa.N xss [1, 1, 1, 1] 2 2) 4 (by omega))
        have HE := Lib.hid (res_yes (x := 2) (y := 2) ⟨hok, rfl, rfl⟩)
        have qx : q.x = 2 := by rw [e]
        have qy : q.y = 2 := by rw [e]
        have qw : q.wh = wh := by rw [e]
        have qo : q.ok = true := by rw [e]
        have HO : Hid (OwnRows W B T (.slice ra rn rc) (fl xss)) := Lib.hid (by have := HO.out; rw [e] at this; exact this)
        rw [qx, qy, qw] at HK
        clear HQ e
        have HM := Lib.hid (mix.impl_any 2 2 wh (.slice va vn vc) xss 2 2 wh (.slice ra rn rc) (fl xss) W (H.out.below B2.out) HO.out.rows hn HT.out)
        have KG : Hid (Blk W g 24 #[.int .i64 2, .int .i64 2, .int .i64 wh, .slice ra rn rc]) := Lib.hid HK.out
        clear HK HT hok
        obtain ⟨c0, c1, c2, c3, c4⟩ := four_cells K2.out
        obtain ⟨d0, d1, d2, d3, d4⟩ := four_cells KG.out
        go_wp2_with fail
        refine HM.out.mono ?_
        rintro e w2 ⟨u, rfl, hu, hb⟩
        obtain ⟨xa, xl, xc, rfl⟩ := hu.rows.shape
        have B3 := Lib.hid (below_tr B2.out hb)
        have R3 := Lib.hid (R2.out.below hb)
        have hz := B2.out.size
        have hz1 := R2.out.lt
        have HU := Lib.hid hu
        have HS := Lib.hid hb.size
        obtain ⟨r0, r1, r2, r3, r4⟩ := four_cells R3.out
        have rf : ∀ k, w2.frozen? ⟨w.heap.size + 1, k, none⟩ = false := fun k => Joins.unfrozen_of_block R3.out k
        clear hb hu HM c0 c1 c2 c3 c4 d0 d1 d2 d3 d4
        obtain ⟨z, hz0⟩ : ∃ z, z = mix.res 2 2 wh xss 2 2 wh (fl xss) := ⟨_, rfl⟩
        rw [← hz0] at HU ⊢
        have HZ := Lib.hid hz0
        clear hz0 qx qy qw qo
        go_wp2_with fail
        refine bodyPost_ret (v := .tuple #[.agg #[.int .i64 z.x, .int .i64 z.y, .int .i64 z.wh, .slice xa xl xc], .bool z.ok]) (by simp [results, Try.results42, go_sem, r0, r1, r2, r3]) rfl ?_
        rw [HE.out, ← HZ.out]
        refine ⟨_, rfl, ?_, ?_⟩
        · refine (HU.out.wrote (S := fun p => p.block < w.heap.size + 1 + 1) ?_ (fun p hp => .inl (by omega))).mono (by omega) (by simp [World.setCell])
          repeat (first | (with_reducible exact Wrote.refl _ _) | (with_reducible refine Wrote.setCell ?_ (by simp) _))
        · repeat (first | (with_reducible exact B3.out) | (with_reducible refine Below.setCell ?_ (by simp) _))
      · have e : q = make.Res.zero := HQ.out.trans (flipa.res_no (fun h => hok h.1))
        have HE := Lib.hid (res_no (x := 2) (y := 2) (wh := wh) (xss := xss) (fun h => hok h.1))
        have qo : q.ok = false := by rw [e]; rfl
        clear HQ e
        obtain ⟨r0, r1, r2, r3, r4⟩ := four_cells R2.out
        have rf : ∀ k, W.frozen? ⟨w.heap.size + 1, k, none⟩ = false := fun k => Joins.unfrozen_of_block R2.out k
        clear hok HK HO
        go_wp2_with fail
        refine bodyPost_ret (v := .tuple #[.agg #[.int .i64 0, .int .i64 0, .int .i64 0, .slice none 0 0], .bool false]) (by simp [results, Try.results42, go_sem, r0, r1, r2, r3]) rfl ?_
        rw [HE.out]
        refine ⟨_, rfl, OwnRows.nil _ _ _, ?_⟩
        repeat (first | (with_reducible exact B2.out) | (with_reducible refine Below.setCell ?_ (by simp) _))
  · rw [asksB_no h2] at HAS
    rw [res_no (fun h => h2 h.2)]
    clear h2
    obtain ⟨r0, r1, r2, r3, r4⟩ := four_cells R0.out
    have rf := fun k => Joins.unfrozen_of_block R0.out k
    go_enter Try.func42, Try.ntmps42
    go_wp2_with fail
    refine (HAS.out _).mono ?_
    rintro e w1 ⟨rfl, rfl⟩
    go_wp2_with fail
    refine bodyPost_ret (v := .tuple #[.agg #[.int .i64 0, .int .i64 0, .int .i64 0, .slice none 0 0], .bool false]) (by simp [results, Try.results42, go_sem, r0, r1, r2, r3]) rfl ⟨_, rfl, OwnRows.nil _ _ _, ?_⟩
    repeat (first | (with_reducible exact B0.out) | (with_reducible refine Below.setCell ?_ (by simp) _))


end Go.Proofs.Ytlaaiahkdkhehaa.evo
