/- AskGame of both sides. -/
import Derived.Test.YtfkdhdiacelcjaaAsks
import Derived.Test.YtfkdhdiacelcjaaOrdi
import Derived.Test.YtfkdhdiacelcjaaGvali
namespace Go.Proofs.Ytfkdhdiacelcjaa.gask
open Go.RowKit Go.Deep Go.Proofs.Ytfkdhdiacelcjaa.base
open Go.Proofs.Ytfkdhdiacelcjaa.rws (total)
open Go.Proofs.Ytfkdhdiacelcjaa.gval (okGame gameB gameB_yes gameB_no)
open Go.Proofs.Ytfkdhdiacelcjaa.ord (order orderB orderB_yes orderB_no)

structure Res where
  x : Int
  y : Int
  ws : List Int
  rows : List (List Int)
  ok : Bool
def Res.zero : Res := ⟨0, 0, [], [], false⟩
def all (x y : Int) (ws : List Int) (xss : List (List Int)) (fs ss : List Int) : Prop := okGame x y ws xss ∧ order x fs ∧ order y ss
def full (y : Int) (ws : List Int) (xss : List (List Int)) (fs ss : List Int) : Res := ⟨(fs.length : Nat), (ss.length : Nat), wts y fs ss ws (fs.length * ss.length), make.rowsOf (N y fs ss xss) (fs.length * ss.length), true⟩
open Classical in
noncomputable def res (x y : Int) (ws : List Int) (xss : List (List Int)) (fs ss : List Int) : Res := if all x y ws xss fs ss then full y ws xss fs ss else Res.zero
theorem res_yes {x y : Int} {ws : List Int} {xss : List (List Int)} {fs ss : List Int} (h : all x y ws xss fs ss) : res x y ws xss fs ss = full y ws xss fs ss := if_pos h
theorem res_no {x y : Int} {ws : List Int} {xss : List (List Int)} {fs ss : List Int} (h : ¬ all x y ws xss fs ss) : res x y ws xss fs ss = Res.zero := if_neg h
theorem len3 {n : Int} {xs : List Int} (h : order n xs) (h1 : 1 ≤ n) (h3 : n ≤ 3) : (1 ≤ xs.length ∧ xs.length ≤ 3) ∧ ∀ k, k < xs.length → 0 ≤ xs.getD k 0 ∧ xs.getD k 0 < n := by
  have hl := h.1
  refine ⟨by omega, fun k hk => ?_⟩
  have hw := ((ord.order_iff h1 h3).1 h).1.2 k hk
  rw [show xs.getD k 0 = xs[k] from by simp [List.getD, hk]]
  omega
theorem ok_ask {x y : Int} {ws : List Int} {xss : List (List Int)} {fs ss : List Int} (h : all x y ws xss fs ss) : okAsk x y fs ss := by
  have a := len3 h.2.1 h.1.1.1.1 h.1.1.1.2
  have b := len3 h.2.2 h.1.1.2.1 h.1.1.2.2
  exact ⟨a.1, b.1, a.2, b.2⟩
theorem nine {x y : Int} {ws : List Int} {xss : List (List Int)} {fs ss : List Int} (h : all x y ws xss fs ss) : fs.length * ss.length ≤ 9 := Nat.mul_le_mul (ok_ask h).1.2 (ok_ask h).2.1.2
theorem tot (x y : Int) (ws : List Int) (xss : List (List Int)) (fs ss : List Int) : total (res x y ws xss fs ss).rows ≤ 1048576 := by
  by_cases h : all x y ws xss fs ss
  · rw [res_yes h]; exact make.total_rowsOf _ _ (nine h)
  · rw [res_no h]; exact Nat.zero_le _
theorem len_ws (x y : Int) (ws : List Int) (xss : List (List Int)) (fs ss : List Int) : (res x y ws xss fs ss).ws.length ≤ 1048576 := by
  by_cases h : all x y ws xss fs ss
  · rw [res_yes h]
    have := nine h
    show (wts y fs ss ws (fs.length * ss.length)).length ≤ _
    rw [len_wts]; omega
  · rw [res_no h]; exact Nat.zero_le _


set_option maxHeartbeats 8000000 in
theorem spec_any (x y : Int) (wv : Value) (ws : List Int) (u : Value) (xss : List (List Int)) (fv sv : Value) (fs ss : List Int) (w : World) (h : game.GV w wv ws u xss) (hf : Ints w fv fs) (hs : Ints w sv ss) (hn : ws.length ≤ 1048576) (hm : total xss ≤ 1048576) :
    Calls Try.prog 26 #[.agg #[.int .i64 x, .int .i64 y, wv, u], fv, sv] w fun e w' => ∃ a r, e = .returned (.tuple #[.agg #[.int .i64 (res x y ws xss fs ss).x, .int .i64 (res x y ws xss fs ss).y, a, r], .bool (res x y ws xss fs ss).ok]) ∧ game.GV w' a (res x y ws xss fs ss).ws r (res x y ws xss fs ss).rows ∧ Below w.heap.size w w' := by
  obtain ⟨va, vn, vc, ua, un, uc, rfl, rfl⟩ := h.shape
  obtain ⟨fa, fn, fc, rfl⟩ := hf.shape
  obtain ⟨sa, sn, sc, rfl⟩ := hs.shape
  have H := Lib.hid h
  have HF := Lib.hid hf
  have HS := Lib.hid hs
  have K1 := Lib.hid ((Blk.new w 25 #[.int .i64 x, .int .i64 y, .slice va vn vc, .slice ua un uc]).alloc (.cells #[.int .i64 0, .int .i64 0, .slice none 0 0, .slice none 0 0] 25))
  have R1 : Hid (Blk ((w.alloc (.cells #[.int .i64 x, .int .i64 y, .slice va vn vc, .slice ua un uc] 25)).alloc (.cells #[.int .i64 0, .int .i64 0, .slice none 0 0, .slice none 0 0] 25)) (w.heap.size + 1) 25 #[.int .i64 0, .int .i64 0, .slice none 0 0, .slice none 0 0]) := Lib.hid (by have := Blk.new (w.alloc (.cells #[.int .i64 x, .int .i64 y, .slice va vn vc, .slice ua un uc] 25)) 25 #[.int .i64 0, .int .i64 0, .slice none 0 0, .slice none 0 0]; simpa using this)
  have B0 := Lib.hid (below_al (below_al (Below.refl w.heap.size w) (.cells #[.int .i64 x, .int .i64 y, .slice va vn vc, .slice ua un uc] 25)) (.cells #[.int .i64 0, .int .i64 0, .slice none 0 0, .slice none 0 0] 25))
  have HC := Lib.hid (gval.spec_any x y _ ws _ xss _ (h.below B0.out) hn hm)
  obtain ⟨c0, c1, c2, c3, c4⟩ := four_cells K1.out
  clear h hf hs
  by_cases hg : okGame x y ws xss
  · have HE := Lib.hid (gameB_yes hg)
    obtain ⟨X, rfl⟩ : ∃ X : Nat, x = X := ⟨x.toNat, by have := hg.1.1; omega⟩
    obtain ⟨Y, rfl⟩ : ∃ Y : Nat, y = Y := ⟨y.toNat, by have := hg.1.2; omega⟩
    have hX := hg.1.1
    have hY := hg.1.2
    have HO1 := Lib.hid (fun (W : World) (hb : Below w.heap.size w W) => calls_below (ord.spec_order _ fs X W (HF.out.below hb) (by omega)))
    have HO2 := Lib.hid (fun (W : World) (hb : Below w.heap.size w W) => calls_below (ord.spec_order _ ss Y W (HS.out.below hb) (by omega)))
    by_cases h1 : order X fs
    · have HE1 := Lib.hid (orderB_yes h1)
      by_cases h2 : order Y ss
      · have HE2 := Lib.hid (orderB_yes h2)
        have HA := Lib.hid (show all X Y ws xss fs ss from ⟨hg, h1, h2⟩)
        have HK := Lib.hid (ok_ask HA.out)
        have HR := Lib.hid (res_yes HA.out)
        clear hg h1 h2 hX hY
        go_enter Try.func26, Try.ntmps26
        go_wp2_with fail
        refine HC.out.mono ?_
        rintro e w1 ⟨rfl, hb⟩
        rw [HE.out]
        have B1 := Lib.hid (below_tr B0.out hb)
        have K2 := Lib.hid (K1.out.below hb)
        have R2 := Lib.hid (R1.out.below hb)
        clear c0 c1 c2 c3 c4 hb HC
        obtain ⟨c0, c1, c2, c3, c4⟩ := four_cells K2.out
        go_wp2_with fail
        refine (HO1.out _ B1.out).mono ?_
        rintro e w2 ⟨rfl, hb⟩
        rw [HE1.out]
        have B2 := Lib.hid (below_tr B1.out hb)
        have K3 := Lib.hid (K2.out.below hb)
        have R3 := Lib.hid (R2.out.below hb)
        clear c0 c1 c2 c3 c4 hb
        obtain ⟨c0, c1, c2, c3, c4⟩ := four_cells K3.out
        go_wp2_with fail
        refine (HO2.out _ B2.out).mono ?_
        rintro e w3 ⟨rfl, hb⟩
        rw [HE2.out]
        have B3 := Lib.hid (below_tr B2.out hb)
        have K4 := Lib.hid (K3.out.below hb)
        have R4 := Lib.hid (R3.out.below hb)
        clear c0 c1 c2 c3 c4 hb
        obtain ⟨c0, c1, c2, c3, c4⟩ := four_cells K4.out
        have hz3 : w.heap.size + 1 + 1 ≤ w3.heap.size := by have := R4.out.lt; omega
        go_wp2_with fail
        refine (l4ask X Y _ ws _ xss _ _ fs ss _ (H.out.below B3.out) (HF.out.below B3.out) (HS.out.below B3.out) HA.out.1 HK.out).mono ?_
        rintro e w4 ⟨a, r, rfl, hoi, hor, hb⟩
        obtain ⟨aa, an, ac, rfl⟩ := hoi.ints.shape
        obtain ⟨ra, rn, rc, rfl⟩ := hor.rows.shape
        have HI := Lib.hid hoi
        have HO := Lib.hid hor
        have B4 := Lib.hid (below_tr B3.out hb)
        have R5 := Lib.hid (R4.out.below hb)
        obtain ⟨r0, r1, r2, r3, r4⟩ := four_cells R5.out
        have rf : ∀ k, w4.frozen? ⟨w.heap.size + 1, k, none⟩ = false := fun k => Joins.unfrozen_of_block R5.out k
        clear hoi hor hb c0 c1 c2 c3 c4
        go_wp2_with fail
        refine bodyPost_ret (v := .tuple #[.agg #[.int .i64 (fs.length : Nat), .int .i64 (ss.length : Nat), .slice aa an ac, .slice ra rn rc], .bool true]) (by simp [results, Try.results26, go_sem, r0, r1, r2, r3]) rfl ?_
        rw [HR.out]
        refine ⟨_, _, rfl, ⟨?_, ?_⟩, ?_⟩
        · refine (HI.out.wrote (S := fun p => p.block < w3.heap.size) ?_ (fun p hp => .inl hp)).ints
          repeat (first | exact Wrote.refl _ _ | refine Wrote.setCell ?_ (by first | omega | (simp; omega)) _)
        · refine (HO.out.wrote (S := fun p => p.block < w3.heap.size) ?_ (fun p hp => .inl hp)).rows
          repeat (first | exact Wrote.refl _ _ | refine Wrote.setCell ?_ (by first | omega | (simp; omega)) _)
        · repeat (first | (with_reducible exact B4.out) | refine Below.setCell ?_ (by simp <;> omega) _)
      · have HE2 := Lib.hid (orderB_no h2)
        have HR := Lib.hid (res_no (fun h : all X Y ws xss fs ss => h2 h.2.2))
        clear hg h1 h2 hX hY
        go_enter Try.func26, Try.ntmps26
        go_wp2_with fail
        refine HC.out.mono ?_
        rintro e w1 ⟨rfl, hb⟩
        rw [HE.out]
        have B1 := Lib.hid (below_tr B0.out hb)
        have K2 := Lib.hid (K1.out.below hb)
        have R2 := Lib.hid (R1.out.below hb)
        clear c0 c1 c2 c3 c4 hb HC
        obtain ⟨c0, c1, c2, c3, c4⟩ := four_cells K2.out
        go_wp2_with fail
        refine (HO1.out _ B1.out).mono ?_
        rintro e w2 ⟨rfl, hb⟩
        rw [HE1.out]
        have B2 := Lib.hid (below_tr B1.out hb)
        have K3 := Lib.hid (K2.out.below hb)
        have R3 := Lib.hid (R2.out.below hb)
        clear c0 c1 c2 c3 c4 hb
        obtain ⟨c0, c1, c2, c3, c4⟩ := four_cells K3.out
        go_wp2_with fail
        refine (HO2.out _ B2.out).mono ?_
        rintro e w3 ⟨rfl, hb⟩
        rw [HE2.out]
        have B3 := Lib.hid (below_tr B2.out hb)
        have K4 := Lib.hid (K3.out.below hb)
        have R4 := Lib.hid (R3.out.below hb)
        clear c0 c1 c2 c3 c4 hb
        obtain ⟨r0, r1, r2, r3, r4⟩ := four_cells R4.out
        have rf : ∀ k, w3.frozen? ⟨w.heap.size + 1, k, none⟩ = false := fun k => Joins.unfrozen_of_block R4.out k
        go_wp2_with fail
        refine bodyPost_ret (v := .tuple #[.agg #[.int .i64 0, .int .i64 0, .slice none 0 0, .slice none 0 0], .bool false]) (by simp [results, Try.results26, go_sem, r0, r1, r2, r3]) rfl ?_
        rw [HR.out]
        refine ⟨_, _, rfl, ⟨Ints.nil _, IRows.nil _⟩, ?_⟩
        repeat (first | (with_reducible exact B3.out) | refine Below.setCell ?_ (by simp <;> omega) _)
    · have HE1 := Lib.hid (orderB_no h1)
      have HR := Lib.hid (res_no (fun h : all X Y ws xss fs ss => h1 h.2.1))
      clear hg h1 hX hY
      go_enter Try.func26, Try.ntmps26
      go_wp2_with fail
      refine HC.out.mono ?_
      rintro e w1 ⟨rfl, hb⟩
      rw [HE.out]
      have B1 := Lib.hid (below_tr B0.out hb)
      have K2 := Lib.hid (K1.out.below hb)
      have R2 := Lib.hid (R1.out.below hb)
      clear c0 c1 c2 c3 c4 hb HC
      obtain ⟨c0, c1, c2, c3, c4⟩ := four_cells K2.out
      go_wp2_with fail
      refine (HO1.out _ B1.out).mono ?_
      rintro e w2 ⟨rfl, hb⟩
      rw [HE1.out]
      have B2 := Lib.hid (below_tr B1.out hb)
      have K3 := Lib.hid (K2.out.below hb)
      have R3 := Lib.hid (R2.out.below hb)
      clear c0 c1 c2 c3 c4 hb
      obtain ⟨r0, r1, r2, r3, r4⟩ := four_cells R3.out
      have rf : ∀ k, w2.frozen? ⟨w.heap.size + 1, k, none⟩ = false := fun k => Joins.unfrozen_of_block R3.out k
      go_wp2_with fail
      refine bodyPost_ret (v := .tuple #[.agg #[.int .i64 0, .int .i64 0, .slice none 0 0, .slice none 0 0], .bool false]) (by simp [results, Try.results26, go_sem, r0, r1, r2, r3]) rfl ?_
      rw [HR.out]
      refine ⟨_, _, rfl, ⟨Ints.nil _, IRows.nil _⟩, ?_⟩
      repeat (first | (with_reducible exact B2.out) | refine Below.setCell ?_ (by simp <;> omega) _)
  · have HE := Lib.hid (gameB_no hg)
    have HR := Lib.hid (res_no (fun h : all x y ws xss fs ss => hg h.1))
    clear hg
    go_enter Try.func26, Try.ntmps26
    go_wp2_with fail
    refine HC.out.mono ?_
    rintro e w1 ⟨rfl, hb⟩
    rw [HE.out]
    have B1 := Lib.hid (below_tr B0.out hb)
    have K2 := Lib.hid (K1.out.below hb)
    have R2 := Lib.hid (R1.out.below hb)
    clear c0 c1 c2 c3 c4 hb HC
    obtain ⟨r0, r1, r2, r3, r4⟩ := four_cells R2.out
    have rf : ∀ k, w1.frozen? ⟨w.heap.size + 1, k, none⟩ = false := fun k => Joins.unfrozen_of_block R2.out k
    go_wp2_with fail
    refine bodyPost_ret (v := .tuple #[.agg #[.int .i64 0, .int .i64 0, .slice none 0 0, .slice none 0 0], .bool false]) (by simp [results, Try.results26, go_sem, r0, r1, r2, r3]) rfl ?_
    rw [HR.out]
    refine ⟨_, _, rfl, ⟨Ints.nil _, IRows.nil _⟩, ?_⟩
    repeat (first | (with_reducible exact B1.out) | refine Below.setCell ?_ (by simp <;> omega) _)



set_option maxHeartbeats 8000000 in
theorem impl_any (x y : Int) (wv : Value) (ws : List Int) (u : Value) (xss : List (List Int)) (fv sv : Value) (fs ss : List Int) (w : World) (h : game.GV w wv ws u xss) (hf : Ints w fv fs) (hs : Ints w sv ss) (hn : ws.length ≤ 1048576) (hm : total xss ≤ 1048576) :
    Calls Try.prog 27 #[.agg #[.int .i64 x, .int .i64 y, wv, u], fv, sv] w fun e w' => ∃ a r, e = .returned (.tuple #[.agg #[.int .i64 (res x y ws xss fs ss).x, .int .i64 (res x y ws xss fs ss).y, a, r], .bool (res x y ws xss fs ss).ok]) ∧ game.OG w' w.heap.size w'.heap.size a (res x y ws xss fs ss).ws r (res x y ws xss fs ss).rows ∧ Below w.heap.size w w' := by
  obtain ⟨va, vn, vc, ua, un, uc, rfl, rfl⟩ := h.shape
  obtain ⟨fa, fn, fc, rfl⟩ := hf.shape
  obtain ⟨sa, sn, sc, rfl⟩ := hs.shape
  have H := Lib.hid h
  have HF := Lib.hid hf
  have HS := Lib.hid hs
  have K1 := Lib.hid ((Blk.new w 25 #[.int .i64 x, .int .i64 y, .slice va vn vc, .slice ua un uc]).alloc (.cells #[.int .i64 0, .int .i64 0, .slice none 0 0, .slice none 0 0] 25))
  have R1 : Hid (Blk ((w.alloc (.cells #[.int .i64 x, .int .i64 y, .slice va vn vc, .slice ua un uc] 25)).alloc (.cells #[.int .i64 0, .int .i64 0, .slice none 0 0, .slice none 0 0] 25)) (w.heap.size + 1) 25 #[.int .i64 0, .int .i64 0, .slice none 0 0, .slice none 0 0]) := Lib.hid (by have := Blk.new (w.alloc (.cells #[.int .i64 x, .int .i64 y, .slice va vn vc, .slice ua un uc] 25)) 25 #[.int .i64 0, .int .i64 0, .slice none 0 0, .slice none 0 0]; simpa using this)
  have B0 := Lib.hid (below_al (below_al (Below.refl w.heap.size w) (.cells #[.int .i64 x, .int .i64 y, .slice va vn vc, .slice ua un uc] 25)) (.cells #[.int .i64 0, .int .i64 0, .slice none 0 0, .slice none 0 0] 25))
  have HC := Lib.hid (gval.impl_any x y _ ws _ xss _ (h.below B0.out) hn hm)
  obtain ⟨c0, c1, c2, c3, c4⟩ := four_cells K1.out
  clear h hf hs
  by_cases hg : okGame x y ws xss
  · have HE := Lib.hid (gameB_yes hg)
    obtain ⟨X, rfl⟩ : ∃ X : Nat, x = X := ⟨x.toNat, by have := hg.1.1; omega⟩
    obtain ⟨Y, rfl⟩ : ∃ Y : Nat, y = Y := ⟨y.toNat, by have := hg.1.2; omega⟩
    have hX := hg.1.1
    have hY := hg.1.2
    have HO1 := Lib.hid (fun (W : World) (hb : Below w.heap.size w W) => ord.impl_order _ fs X W (HF.out.below hb) (by omega) (by omega))
    have HO2 := Lib.hid (fun (W : World) (hb : Below w.heap.size w W) => ord.impl_order _ ss Y W (HS.out.below hb) (by omega) (by omega))
    by_cases h1 : order X fs
    · have HE1 := Lib.hid (orderB_yes h1)
      by_cases h2 : order Y ss
      · have HE2 := Lib.hid (orderB_yes h2)
        have HA := Lib.hid (show all X Y ws xss fs ss from ⟨hg, h1, h2⟩)
        have HK := Lib.hid (ok_ask HA.out)
        have HR := Lib.hid (res_yes HA.out)
        clear hg h1 h2 hX hY
        go_enter Try.func27, Try.ntmps27
        go_wp2_with fail
        refine HC.out.mono ?_
        rintro e w1 ⟨rfl, hb⟩
        rw [HE.out]
        have B1 := Lib.hid (below_tr B0.out hb)
        have K2 := Lib.hid (K1.out.below hb)
        have R2 := Lib.hid (R1.out.below hb)
        clear c0 c1 c2 c3 c4 hb HC
        obtain ⟨c0, c1, c2, c3, c4⟩ := four_cells K2.out
        go_wp2_with fail
        refine (HO1.out _ B1.out).mono ?_
        rintro e w2 ⟨rfl, hb⟩
        rw [HE1.out]
        have B2 := Lib.hid (below_tr B1.out hb)
        have K3 := Lib.hid (K2.out.below hb)
        have R3 := Lib.hid (R2.out.below hb)
        clear c0 c1 c2 c3 c4 hb
        obtain ⟨c0, c1, c2, c3, c4⟩ := four_cells K3.out
        go_wp2_with fail
        refine (HO2.out _ B2.out).mono ?_
        rintro e w3 ⟨rfl, hb⟩
        rw [HE2.out]
        have B3 := Lib.hid (below_tr B2.out hb)
        have K4 := Lib.hid (K3.out.below hb)
        have R4 := Lib.hid (R3.out.below hb)
        clear c0 c1 c2 c3 c4 hb
        obtain ⟨c0, c1, c2, c3, c4⟩ := four_cells K4.out
        have hz3 : w.heap.size + 1 + 1 ≤ w3.heap.size := by have := R4.out.lt; omega
        go_wp2_with fail
        refine (asked X Y _ ws _ xss _ _ fs ss _ (H.out.below B3.out) (HF.out.below B3.out) (HS.out.below B3.out) HA.out.1 HK.out).mono ?_
        rintro e w4 ⟨a, r, rfl, hog, hb⟩
        obtain ⟨aa, an, ac, ra, rn, rc, rfl, rfl⟩ := hog.view.shape
        have HO := Lib.hid hog
        have B4 := Lib.hid (below_tr B3.out hb)
        have R5 := Lib.hid (R4.out.below hb)
        obtain ⟨r0, r1, r2, r3, r4⟩ := four_cells R5.out
        have rf : ∀ k, w4.frozen? ⟨w.heap.size + 1, k, none⟩ = false := fun k => Joins.unfrozen_of_block R5.out k
        clear hog hb c0 c1 c2 c3 c4
        go_wp2_with fail
        refine bodyPost_ret (v := .tuple #[.agg #[.int .i64 (fs.length : Nat), .int .i64 (ss.length : Nat), .slice aa an ac, .slice ra rn rc], .bool true]) (by simp [results, Try.results27, go_sem, r0, r1, r2, r3]) rfl ?_
        rw [HR.out]
        refine ⟨_, _, rfl, ?_, ?_⟩
        · refine (HO.out.wrote (S := fun p => p.block < w3.heap.size) ?_ (fun p hp => .inl hp)).mono B3.out.size (by simp [World.setCell])
          repeat (first | exact Wrote.refl _ _ | refine Wrote.setCell ?_ (by first | omega | (simp; omega)) _)
        · repeat (first | (with_reducible exact B4.out) | refine Below.setCell ?_ (by simp <;> omega) _)
      · have HE2 := Lib.hid (orderB_no h2)
        have HR := Lib.hid (res_no (fun h : all X Y ws xss fs ss => h2 h.2.2))
        clear hg h1 h2 hX hY
        go_enter Try.func27, Try.ntmps27
        go_wp2_with fail
        refine HC.out.mono ?_
        rintro e w1 ⟨rfl, hb⟩
        rw [HE.out]
        have B1 := Lib.hid (below_tr B0.out hb)
        have K2 := Lib.hid (K1.out.below hb)
        have R2 := Lib.hid (R1.out.below hb)
        clear c0 c1 c2 c3 c4 hb HC
        obtain ⟨c0, c1, c2, c3, c4⟩ := four_cells K2.out
        go_wp2_with fail
        refine (HO1.out _ B1.out).mono ?_
        rintro e w2 ⟨rfl, hb⟩
        rw [HE1.out]
        have B2 := Lib.hid (below_tr B1.out hb)
        have K3 := Lib.hid (K2.out.below hb)
        have R3 := Lib.hid (R2.out.below hb)
        clear c0 c1 c2 c3 c4 hb
        obtain ⟨c0, c1, c2, c3, c4⟩ := four_cells K3.out
        go_wp2_with fail
        refine (HO2.out _ B2.out).mono ?_
        rintro e w3 ⟨rfl, hb⟩
        rw [HE2.out]
        have B3 := Lib.hid (below_tr B2.out hb)
        have K4 := Lib.hid (K3.out.below hb)
        have R4 := Lib.hid (R3.out.below hb)
        clear c0 c1 c2 c3 c4 hb
        obtain ⟨r0, r1, r2, r3, r4⟩ := four_cells R4.out
        have rf : ∀ k, w3.frozen? ⟨w.heap.size + 1, k, none⟩ = false := fun k => Joins.unfrozen_of_block R4.out k
        go_wp2_with fail
        refine bodyPost_ret (v := .tuple #[.agg #[.int .i64 0, .int .i64 0, .slice none 0 0, .slice none 0 0], .bool false]) (by simp [results, Try.results27, go_sem, r0, r1, r2, r3]) rfl ?_
        rw [HR.out]
        refine ⟨_, _, rfl, game.OG.nil _ _ _ (by have := B3.out.size; simp [World.setCell]; omega), ?_⟩
        repeat (first | (with_reducible exact B3.out) | refine Below.setCell ?_ (by simp <;> omega) _)
    · have HE1 := Lib.hid (orderB_no h1)
      have HR := Lib.hid (res_no (fun h : all X Y ws xss fs ss => h1 h.2.1))
      clear hg h1 hX hY
      go_enter Try.func27, Try.ntmps27
      go_wp2_with fail
      refine HC.out.mono ?_
      rintro e w1 ⟨rfl, hb⟩
      rw [HE.out]
      have B1 := Lib.hid (below_tr B0.out hb)
      have K2 := Lib.hid (K1.out.below hb)
      have R2 := Lib.hid (R1.out.below hb)
      clear c0 c1 c2 c3 c4 hb HC
      obtain ⟨c0, c1, c2, c3, c4⟩ := four_cells K2.out
      go_wp2_with fail
      refine (HO1.out _ B1.out).mono ?_
      rintro e w2 ⟨rfl, hb⟩
      rw [HE1.out]
      have B2 := Lib.hid (below_tr B1.out hb)
      have K3 := Lib.hid (K2.out.below hb)
      have R3 := Lib.hid (R2.out.below hb)
      clear c0 c1 c2 c3 c4 hb
      obtain ⟨r0, r1, r2, r3, r4⟩ := four_cells R3.out
      have rf : ∀ k, w2.frozen? ⟨w.heap.size + 1, k, none⟩ = false := fun k => Joins.unfrozen_of_block R3.out k
      go_wp2_with fail
      refine bodyPost_ret (v := .tuple #[.agg #[.int .i64 0, .int .i64 0, .slice none 0 0, .slice none 0 0], .bool false]) (by simp [results, Try.results27, go_sem, r0, r1, r2, r3]) rfl ?_
      rw [HR.out]
      refine ⟨_, _, rfl, game.OG.nil _ _ _ (by have := B2.out.size; simp [World.setCell]; omega), ?_⟩
      repeat (first | (with_reducible exact B2.out) | refine Below.setCell ?_ (by simp <;> omega) _)
  · have HE := Lib.hid (gameB_no hg)
    have HR := Lib.hid (res_no (fun h : all x y ws xss fs ss => hg h.1))
    clear hg
    go_enter Try.func27, Try.ntmps27
    go_wp2_with fail
    refine HC.out.mono ?_
    rintro e w1 ⟨rfl, hb⟩
    rw [HE.out]
    have B1 := Lib.hid (below_tr B0.out hb)
    have K2 := Lib.hid (K1.out.below hb)
    have R2 := Lib.hid (R1.out.below hb)
    clear c0 c1 c2 c3 c4 hb HC
    obtain ⟨r0, r1, r2, r3, r4⟩ := four_cells R2.out
    have rf : ∀ k, w1.frozen? ⟨w.heap.size + 1, k, none⟩ = false := fun k => Joins.unfrozen_of_block R2.out k
    go_wp2_with fail
    refine bodyPost_ret (v := .tuple #[.agg #[.int .i64 0, .int .i64 0, .slice none 0 0, .slice none 0 0], .bool false]) (by simp [results, Try.results27, go_sem, r0, r1, r2, r3]) rfl ?_
    rw [HR.out]
    refine ⟨_, _, rfl, game.OG.nil _ _ _ (by have := B1.out.size; simp [World.setCell]; omega), ?_⟩
    repeat (first | (with_reducible exact B1.out) | refine Below.setCell ?_ (by simp <;> omega) _)


end Go.Proofs.Ytfkdhdiacelcjaa.gask
