/- l3Greatest and GreatestSum of the model. -/
import Derived.Test.YtimfnhejiiagmaaGsq
import Derived.Test.YtimfnhejiiagmaaGsp
import Derived.Test.YtimfnhejiiagmaaGsi
import Derived.Test.YtimfnhejiiagmaaSos
import Derived.Test.YtimfnhejiiagmaaMost
import Derived.Deep.RegionHeld3
namespace Go.Proofs.Ytimfnhejiiagmaa.gsg
open Go.RowKit Go.Deep Go.Proofs.Ytimfnhejiiagmaa.base
open Go.Proofs.Ytimfnhejiiagmaa.val (okSizes okBox boxB boxB_yes boxB_no ret_b)
open Go.Proofs.Ytimfnhejiiagmaa.gsm
open Go.Proofs.Ytimfnhejiiagmaa.gsp (pair_cells)
open Go.Proofs.Ytimfnhejiiagmaa.pro (pcs pairs_of_owns)
open Go.Proofs.Ytimfnhejiiagmaa.gsi (res res_yes res_no big ret_ib)

/-- the best one behind t places -/
def Is (xss : List (List Int)) (X Y t : Nat) (s a b c d m : Int) (fd : Bool) : Prop :=
  s = mx (f xss X Y) t ∧ fd = decide (0 < t) ∧ (0 < t → pl1 X Y (bs (f xss X Y) t) = (a, b) ∧ pl2 Y (bs (f xss X Y) t) = (c, d) ∧ pl3 (bs (f xss X Y) t) = m)
theorem Is.start (xss : List (List Int)) (X Y : Nat) : Is xss X Y 0 0 0 0 0 0 0 false := ⟨rfl, rfl, fun h => absurd h (Nat.lt_irrefl _)⟩
theorem bs_succ (g : Nat → Int) (n : Nat) : bs g (n + 1) = if n = 0 ∨ g (bs g n) < g n then n else bs g n := rfl
theorem mx_succ (g : Nat → Int) (n : Nat) : mx g (n + 1) = if mx g n < g n then g n else mx g n := rfl
theorem f_nn (xss : List (List Int)) (X Y : Nat) (t : Nat) : 0 ≤ f xss X Y t := abs'_nn _
theorem Is.first {xss : List (List Int)} {X Y : Nat} {a' b' c' d' m' F : Int} (hF : f xss X Y 0 = F) (h1 : pl1 X Y 0 = (a', b')) (h2 : pl2 Y 0 = (c', d')) (h3 : pl3 0 = m') : Is xss X Y 1 F a' b' c' d' m' true := by
  have hn := f_nn xss X Y 0
  refine ⟨?_, rfl, fun _ => ?_⟩
  · rw [mx_succ, hF]
    have h0 : mx (f xss X Y) 0 = 0 := rfl
    rw [h0]
    split <;> omega
  · rw [bs_succ, if_pos (Or.inl rfl)]
    exact ⟨h1, h2, h3⟩
theorem Is.more {xss : List (List Int)} {X Y t : Nat} {s a b c d m : Int} {a' b' c' d' m' F : Int} (h : Is xss X Y t s a b c d m true) (hF : f xss X Y t = F) (hlt : s < F) (h1 : pl1 X Y t = (a', b')) (h2 : pl2 Y t = (c', d')) (h3 : pl3 t = m') : Is xss X Y (t + 1) F a' b' c' d' m' true := by
  obtain ⟨e1, e2, e3⟩ := h
  have ht : 0 < t := by simpa using e2.symm
  obtain ⟨_, q2, _⟩ := bs_is (f xss X Y) (f_nn xss X Y) t ht
  refine ⟨?_, by simp, fun _ => ?_⟩
  · rw [mx_succ, hF, if_pos (by omega)]
  · rw [bs_succ, if_pos (Or.inr (by omega))]
    exact ⟨h1, h2, h3⟩
theorem Is.stay {xss : List (List Int)} {X Y t : Nat} {s a b c d m F : Int} (h : Is xss X Y t s a b c d m true) (hF : f xss X Y t = F) (hlt : ¬ s < F) : Is xss X Y (t + 1) s a b c d m true := by
  obtain ⟨e1, e2, e3⟩ := h
  have ht : 0 < t := by simpa using e2.symm
  obtain ⟨_, q2, _⟩ := bs_is (f xss X Y) (f_nn xss X Y) t ht
  refine ⟨?_, by simp, fun _ => ?_⟩
  · rw [mx_succ, hF, if_neg (by omega)]; exact e1
  · rw [bs_succ, if_neg (by omega)]
    exact e3 ht
theorem Is.zero {xss : List (List Int)} {X Y t : Nat} {s a b c d m : Int} (h : Is xss X Y t s a b c d m false) : t = 0 := by
  have := h.2.1
  by_cases e : 0 < t
  · rw [decide_eq_true e] at this; cases this
  · omega

theorem owns_low2 {w w' : World} {B e l : Nat} {u : Value} {xs : List Value} (hu : w.ownsRow B e 2 u l xs) (hw : Wrote (fun p => p.block < B) w w') : w'.ownsRow B e 2 u l xs := by
  refine ⟨hu.1, ?_⟩
  rcases hu.2 with hn | ⟨g, cap, cur, rfl, hb, hgg, rest⟩
  · exact .inl hn
  · exact .inr ⟨g, cap, cur, rfl, hb, (hw.block g (fun p hp e1 => by omega)).trans hgg, rest⟩
theorem seven_cells {w : World} {b : Nat} {t : TypeId} {u0 u1 u2 u3 u4 u5 u6 : Value} (h : Blk w b t #[u0, u1, u2, u3, u4, u5, u6]) : w.cell? ⟨b, 0, none⟩ = some u0 ∧ w.cell? ⟨b, 1, none⟩ = some u1 ∧ w.cell? ⟨b, 2, none⟩ = some u2 ∧ w.cell? ⟨b, 3, none⟩ = some u3 ∧ w.cell? ⟨b, 4, none⟩ = some u4 ∧ w.cell? ⟨b, 5, none⟩ = some u5 ∧ w.cell? ⟨b, 6, none⟩ = some u6 ∧ b < w.heap.size := by
  have hl := h.lt
  unfold Blk at h
  refine ⟨?_, ?_, ?_, ?_, ?_, ?_, ?_, hl⟩ <;> simp only [World.cell?, h] <;> rfl
/-- the seven cells of the best one -/
def bst (s a b c d m : Int) (fd : Bool) : Array Value := #[.int .i64 s, .int .i64 a, .int .i64 b, .int .i64 c, .int .i64 d, .int .i64 m, .bool fd]
/-- what the loops keep -/
structure Keep (w wr : World) (X Y wh : Int) (v : Value) (u1 u2 : Value) (x y : Nat) (s a b c d m : Int) (fd : Bool) : Prop where
  below : Below w.heap.size w wr
  box : Blk wr w.heap.size 29 #[.int .i64 X, .int .i64 Y, .int .i64 wh, v]
  ans : Blk wr (w.heap.size + 1) 83 (bst 0 0 0 0 0 0 false)
  best : Blk wr (w.heap.size + 1 + 1) 83 (bst s a b c d m fd)
  fst : wr.ownsRow (w.heap.size + 1 + 1 + 1) 26 2 u1 (qpr.upto x x).length (pcs (qpr.upto x x))
  snd : wr.ownsRow (w.heap.size + 1 + 1 + 1) 26 2 u2 (qpr.upto y y).length (pcs (qpr.upto y y))
theorem Keep.keep {w wr w' : World} {X Y wh : Int} {v u1 u2 : Value} {x y : Nat} {s a b c d m : Int} {fd : Bool} (h : Keep w wr X Y wh v u1 u2 x y s a b c d m fd) (hb : Below wr.heap.size wr w') : Keep w w' X Y wh v u1 u2 x y s a b c d m fd :=
  ⟨below_tr h.below hb, h.box.below hb, h.ans.below hb, h.best.below hb, app.owns_below h.fst hb, app.owns_below h.snd hb⟩
theorem offs4 {R : Nat} {w w' : World} {p0 p1 p2 p3 : Addr} {u0 u1 u2 u3 : Value} (h0 : w.cell? p0 = some u0) (h1 : w.cell? p1 = some u1) (h2 : w.cell? p2 = some u2) (h3 : w.cell? p3 = some u3)
    (n0 : p0.block ≠ R) (n1 : p1.block ≠ R) (n2 : p2.block ≠ R) (n3 : p3.block ≠ R) (h : step.Off R w w') : w'.cell? p0 = some u0 ∧ w'.cell? p1 = some u1 ∧ w'.cell? p2 = some u2 ∧ w'.cell? p3 = some u3 :=
  ⟨(h.2 _ n0 (World.block_lt_of_cell? _ _ h0)).trans h0, (h.2 _ n1 (World.block_lt_of_cell? _ _ h1)).trans h1, (h.2 _ n2 (World.block_lt_of_cell? _ _ h2)).trans h2, (h.2 _ n3 (World.block_lt_of_cell? _ _ h3)).trans h3⟩
/-- the world behind a store of a best one -/
def sto (w : World) (k : Nat) (s a b c d m : Int) (fd : Bool) : World :=
  ((((((w.setCell ⟨k, 0, none⟩ (.int .i64 s)).setCell ⟨k, 1, none⟩ (.int .i64 a)).setCell ⟨k, 2, none⟩ (.int .i64 b)).setCell ⟨k, 3, none⟩ (.int .i64 c)).setCell ⟨k, 4, none⟩ (.int .i64 d)).setCell ⟨k, 5, none⟩ (.int .i64 m)).setCell ⟨k, 6, none⟩ (.bool fd)
theorem sto_wrote (w : World) (k : Nat) (s a b c d m : Int) (fd : Bool) : Wrote (fun p => p.block = k) w (sto w k s a b c d m fd) :=
  ((((((Wrote.refl (fun p : Addr => p.block = k) w).setCell (p := ⟨k, 0, none⟩) rfl _).setCell (p := ⟨k, 1, none⟩) rfl _).setCell (p := ⟨k, 2, none⟩) rfl _).setCell (p := ⟨k, 3, none⟩) rfl _).setCell (p := ⟨k, 4, none⟩) rfl _).setCell (p := ⟨k, 5, none⟩) rfl _ |>.setCell (p := ⟨k, 6, none⟩) rfl _
theorem sto_blk {w : World} {k : Nat} {s a b c d m s' a' b' c' d' m' : Int} {fd fd' : Bool} (h : Blk w k 83 (bst s a b c d m fd)) : Blk (sto w k s' a' b' c' d' m' fd') k 83 (bst s' a' b' c' d' m' fd') := by
  have h1 := Joins.block_setCell (i := 0) h (.int .i64 s')
  have h2 := Joins.block_setCell (i := 1) h1 (.int .i64 a')
  have h3 := Joins.block_setCell (i := 2) h2 (.int .i64 b')
  have h4 := Joins.block_setCell (i := 3) h3 (.int .i64 c')
  have h5 := Joins.block_setCell (i := 4) h4 (.int .i64 d')
  have h6 := Joins.block_setCell (i := 5) h5 (.int .i64 m')
  have h7 := Joins.block_setCell (i := 6) h6 (.bool fd')
  unfold Blk sto
  simpa [bst] using h7
theorem Keep.store {w wr : World} {X Y wh : Int} {v u1 u2 : Value} {x y : Nat} {s a b c d m s' a' b' c' d' m' : Int} {fd fd' : Bool} (h : Keep w wr X Y wh v u1 u2 x y s a b c d m fd) : Keep w (sto wr (w.heap.size + 1 + 1) s' a' b' c' d' m' fd') X Y wh v u1 u2 x y s' a' b' c' d' m' fd' := by
  have hw := sto_wrote wr (w.heap.size + 1 + 1) s' a' b' c' d' m' fd'
  refine ⟨h.below.trans (hw.below (fun p hp => by have : p.block = w.heap.size + 1 + 1 := hp; omega)), h.box.wrote hw (fun p hp => by have : p.block = w.heap.size + 1 + 1 := hp; omega), h.ans.wrote hw (fun p hp => by have : p.block = w.heap.size + 1 + 1 := hp; omega), sto_blk h.best, owns_low2 h.fst (hw.mono (fun p hp => by have : p.block = w.heap.size + 1 + 1 := hp; omega)), owns_low2 h.snd (hw.mono (fun p hp => by have : p.block = w.heap.size + 1 + 1 := hp; omega))⟩


theorem most_abs (s : Int) (w : World) : Calls Try.prog 88 #[.int .i64 s, .int .i64 (-s)] w fun e w' => e = .returned (.int .i64 (abs' s)) ∧ w = w' := by
  by_cases h : -s < s
  · have e : abs' s = s := by unfold abs'; rw [if_neg (by omega)]
    rw [e]
    exact part.most_fst _ _ _ h
  · have e : abs' s = -s := by unfold abs'; split <;> omega
    rw [e]
    exact part.most_snd _ _ _ h



set_option maxRecDepth 100000 in
set_option maxHeartbeats 8000000 in
theorem l3greatest (X Y : Nat) (wh : Int) (v : Value) (xss : List (List Int)) (w : World) (h : IRows w v xss) (hok : okBox X Y wh xss) :
    Calls Try.prog 64 #[.agg #[.int .i64 (X : Int), .int .i64 (Y : Int), .int .i64 wh, v]] w fun e w' => ∃ s a b c d m fd, e = .returned (.agg (bst s a b c d m fd)) ∧ Is xss X Y (num X Y) s a b c d m fd ∧ Below w.heap.size w w' := by
  obtain ⟨va, vn, vc, rfl⟩ := h.shape
  have HV := Lib.hid h
  have hX : X ≤ 3 := by have := hok.1.1; omega
  have hY : Y ≤ 3 := by have := hok.1.2; omega
  have HQX := Lib.hid (gsq.l3pairs X hX)
  have HQY := Lib.hid (gsq.l3pairs Y hY)
  have HPX : Hid (np X ≤ 9) := Lib.hid (np_le X hX)
  have HPY : Hid (np Y ≤ 9) := Lib.hid (np_le Y hY)
  have HAT := Lib.hid (pl_at X Y)
  have HSUM := Lib.hid (fun t (ht : t < num X Y) W (hb : Below w.heap.size w W) => sos.l3sum X Y wh (.slice va vn vc) xss (pl1 X Y t).1 (pl1 X Y t).2 (pl2 Y t).1 (pl2 Y t).2 (pl3 t) W (HV.out.below hb) ⟨hok, pl_ok hok.1 ht⟩)
  have HFB := Lib.hid (fun t (ht : t < num X Y) => f_bd hok ht)
  clear h hok hX hY
  obtain ⟨W0, hW0⟩ : ∃ W0, ((w.alloc (.cells #[.int .i64 (X : Int), .int .i64 (Y : Int), .int .i64 wh, .slice va vn vc] 29)).alloc (.cells (bst 0 0 0 0 0 0 false) 83)).alloc (.cells (bst 0 0 0 0 0 0 false) 83) = W0 := ⟨_, rfl⟩
  have K0 : Hid (Below w.heap.size w W0 ∧ Blk W0 w.heap.size 29 #[.int .i64 (X : Int), .int .i64 (Y : Int), .int .i64 wh, .slice va vn vc] ∧ Blk W0 (w.heap.size + 1) 83 (bst 0 0 0 0 0 0 false) ∧ Blk W0 (w.heap.size + 1 + 1) 83 (bst 0 0 0 0 0 0 false) ∧ W0.heap.size = w.heap.size + 1 + 1 + 1) := Lib.hid (by
    rw [← hW0]
    refine ⟨below_al (below_al (below_al (Below.refl _ _) _) _) _, ((Blk.new _ _ _).alloc _).alloc _, ?_, ?_, by simp⟩
    · have := (Blk.new (w.alloc (.cells #[.int .i64 (X : Int), .int .i64 (Y : Int), .int .i64 wh, .slice va vn vc] 29)) 83 (bst 0 0 0 0 0 0 false)).alloc (.cells (bst 0 0 0 0 0 0 false) 83)
      simpa using this
    · have := Blk.new ((w.alloc (.cells #[.int .i64 (X : Int), .int .i64 (Y : Int), .int .i64 wh, .slice va vn vc] 29)).alloc (.cells (bst 0 0 0 0 0 0 false) 83)) 83 (bst 0 0 0 0 0 0 false)
      simpa using this)
  obtain ⟨k0, k1, k2, k3, k4, k5, k6, _⟩ := seven_cells K0.out.2.2.2.1
  have rf : ∀ j, W0.frozen? ⟨w.heap.size + 1 + 1, j, none⟩ = false := fun j => Joins.unfrozen_of_block K0.out.2.2.2.1 j
  obtain ⟨W1, hW1⟩ : ∃ W1, sto W0 (w.heap.size + 1 + 1) 0 0 0 0 0 0 false = W1 := ⟨_, rfl⟩
  have K1 : Hid (Below w.heap.size w W1 ∧ Blk W1 w.heap.size 29 #[.int .i64 (X : Int), .int .i64 (Y : Int), .int .i64 wh, .slice va vn vc] ∧ Blk W1 (w.heap.size + 1) 83 (bst 0 0 0 0 0 0 false) ∧ Blk W1 (w.heap.size + 1 + 1) 83 (bst 0 0 0 0 0 0 false) ∧ w.heap.size + 1 + 1 + 1 ≤ W1.heap.size) := Lib.hid (by
    obtain ⟨q1, q2, q3, q4, q5⟩ := K0.out
    have hw := sto_wrote W0 (w.heap.size + 1 + 1) 0 0 0 0 0 0 false
    rw [← hW1]
    exact ⟨q1.trans (hw.below (fun p hp => by have : p.block = w.heap.size + 1 + 1 := hp; omega)), q2.wrote hw (fun p hp => by have : p.block = w.heap.size + 1 + 1 := hp; omega), q3.wrote hw (fun p hp => by have : p.block = w.heap.size + 1 + 1 := hp; omega), sto_blk q4, by have := hw.size; omega⟩)
  obtain ⟨b0, b1, b2, b3, _⟩ := four_cells K1.out.2.1
  clear K0
  unfold bst at hW0
  unfold sto at hW1
  go_enter Try.func64, Try.ntmps64
  go_wp2_with fail
  clear hW0 hW1 k0 k1 k2 k3 k4 k5 k6 rf
  go_region_held3 (fun w' => w'.cell? ⟨w.heap.size, 0, none⟩ = some (.int .i64 (X : Int)) ∧ w'.cell? ⟨w.heap.size, 1, none⟩ = some (.int .i64 (Y : Int)) ∧ w'.cell? ⟨w.heap.size, 2, none⟩ = some (.int .i64 wh) ∧ w'.cell? ⟨w.heap.size, 3, none⟩ = some (.slice va vn vc) ∧ Below W1.heap.size W1 w')
    ((refine held4 b0 b1 b2 b3 ?_; repeat (first | exact Below.refl _ _ | assumption | refine below_dr ?_ | refine below_tr ?_ (by assumption))))
    (first
      | (go_at_call 133; (with_reducible refine (HQX.out _).mono ?_); rintro e wx ⟨u1, rfl, hu1, hbx⟩; (have U1 := Lib.hid hu1); obtain ⟨ua, un, uc, rfl⟩ := (pairs_of_owns hu1).pairs.shape; clear hu1)
      | (go_at_call 133; (with_reducible refine (HQY.out _).mono ?_); rintro e wy ⟨u2, rfl, hu2, hby⟩; (have U2 := Lib.hid hu2); obtain ⟨va', vn', vc', rfl⟩ := (pairs_of_owns hu2).pairs.shape; clear hu2))
  all_goals
    have hun : un = np X := by
      obtain ⟨A, cap, hv, _⟩ := (pairs_of_owns U1.out).pairs
      injection hv with _ e2 _
    have hvn : vn' = np Y := by
      obtain ⟨A, cap, hv, _⟩ := (pairs_of_owns U2.out).pairs
      injection hv with _ e2 _
    subst hun
    subst hvn
    have KK : Hid (Keep w wy X Y wh (.slice va vn vc) (.slice ua (np X) uc) (.slice va' (np Y) vc') X Y 0 0 0 0 0 0 false) := Lib.hid (by
      obtain ⟨q1, q2, q3, q4, q5⟩ := K1.out
      have hb1 : Below W1.heap.size W1 wx := below_tr (below_dr (Below.refl _ _)) hbx
      have hb2 : Below W1.heap.size W1 wy := below_tr hb1 hby
      exact ⟨below_tr q1 hb2, q2.below hb2, q3.below hb2, q4.below hb2, built.base_mono (app.owns_below U1.out hby) (by simpa using q5), built.base_mono U2.out (Nat.le_trans q5 hb1.size)⟩)
    clear hbx hby U1 U2 b0 b1 b2 b3 K1 HQX HQY
    have X9 : ((np X : Nat) : Int) ≤ 9 := by have := HPX.out; omega
    have Y9 : ((np Y : Nat) : Int) ≤ 9 := by have := HPY.out; omega
    go_wp2_with fail
    go_loopw [6, 7, 8, 9] (fun s6 z7 z8 z9 wr => ∃ i : Nat, i ≤ np X ∧ s6 = .int .i64 (i : Nat) ∧ (∃ z, z7 = z) ∧ (∃ z, z8 = z) ∧ (∃ z, z9 = z) ∧ ∃ s a b c d m fd, Hid (Is xss X Y (i * np Y * 4) s a b c d m fd ∧ Keep w wr X Y wh (.slice va vn vc) (.slice ua (np X) uc) (.slice va' (np Y) vc') X Y s a b c d m fd)) (fun s6 _ _ _ _ => np X - (intOf s6).toNat)
    case atStart => exact ⟨0, Nat.zero_le _, rfl, ⟨_, rfl⟩, ⟨_, rfl⟩, ⟨_, rfl⟩, 0, 0, 0, 0, 0, 0, false, Lib.hid ⟨by rw [Nat.zero_mul, Nat.zero_mul]; exact Is.start xss X Y, KK.out⟩⟩
    case round =>
      clear KK
      obtain ⟨i, hi, rfl, ⟨z7, rfl⟩, ⟨z8, rfl⟩, ⟨z9, rfl⟩, s, a, b, c, d, m0, fd, hS⟩ := hrel
      obtain ⟨wo, rfl⟩ : ∃ w9 : World, w9 = wr := ⟨_, rfl⟩
      by_cases hlt : i < np X
      · have hkz : (i : Int) < ((np X : Nat) : Int) := by omega
        have HLT := Lib.hid hlt
        go_wp2_with fail
        go_loopw [7, 8, 9] (fun s7 z8 z9 wr => ∃ k : Nat, k ≤ np Y ∧ s7 = .int .i64 (k : Nat) ∧ (∃ z, z8 = z) ∧ (∃ z, z9 = z) ∧ ∃ s a b c d m fd, Hid (Is xss X Y ((i * np Y + k) * 4) s a b c d m fd ∧ Keep w wr X Y wh (.slice va vn vc) (.slice ua (np X) uc) (.slice va' (np Y) vc') X Y s a b c d m fd)) (fun s7 _ _ _ => np Y - (intOf s7).toNat)
        case atStart => exact ⟨0, Nat.zero_le _, rfl, ⟨_, rfl⟩, ⟨_, rfl⟩, s, a, b, c, d, m0, fd, hS⟩
        case round =>
          clear hS
          obtain ⟨k, hk, rfl, ⟨z8, rfl⟩, ⟨z9, rfl⟩, s, a, b, c, d, m0, fd, hS⟩ := hrel
          obtain ⟨wi, rfl⟩ : ∃ w9 : World, w9 = wr := ⟨_, rfl⟩
          by_cases hlk : k < np Y
          · have hkz2 : (k : Int) < ((np Y : Nat) : Int) := by omega
            have HLK := Lib.hid hlk
            go_wp2_with fail
            go_loopw [8, 9] (fun s8 z9 wr => ∃ m : Nat, m ≤ 4 ∧ s8 = .int .i64 (m : Nat) ∧ (∃ z, z9 = z) ∧ ∃ s a b c d m0 fd, Hid (Is xss X Y ((i * np Y + k) * 4 + m) s a b c d m0 fd ∧ Keep w wr X Y wh (.slice va vn vc) (.slice ua (np X) uc) (.slice va' (np Y) vc') X Y s a b c d m0 fd)) (fun s8 _ _ => 4 - (intOf s8).toNat)
            case atStart => exact ⟨0, Nat.zero_le _, rfl, ⟨_, rfl⟩, s, a, b, c, d, m0, fd, hS⟩
            case round =>
              clear hS
              obtain ⟨m, hm, rfl, ⟨z9, rfl⟩, s, a, b, c, d, m0, fd, hS⟩ := hrel
              obtain ⟨wm, rfl⟩ : ∃ w9 : World, w9 = wr := ⟨_, rfl⟩
              by_cases hlm : m < 4
              · have hkz3 : (m : Int) < 4 := by omega
                have HB : Hid ((i * np Y + k) * 4 + m < num X Y) := Lib.hid (by
                  have g1 : i * np Y + k < (i + 1) * np Y := by rw [Nat.add_mul]; have := HLK.out; omega
                  have g2 : (i + 1) * np Y ≤ np X * np Y := Nat.mul_le_mul_right _ (by have := HLT.out; omega)
                  unfold num
                  omega)
                obtain ⟨g1, cap1, hv1, p0, p1⟩ := pair_cells hS.out.2.fst HLT.out
                obtain ⟨g2, cap2, hv2, q0, q1⟩ := pair_cells hS.out.2.snd HLK.out
                have ng1 : g1 ≠ w.heap.size + 1 + 1 := by have := (hS.out.2.fst.lt g1 (by rw [hv1]; rfl)).1; omega
                have ng2 : g2 ≠ w.heap.size + 1 + 1 := by have := (hS.out.2.snd.lt g2 (by rw [hv2]; rfl)).1; omega
                injection hv1 with e1 e2 e3
                subst e1
                clear e2 e3
                injection hv2 with e1 e2 e3
                subst e1
                clear e2 e3
                obtain ⟨x1, x2, x3⟩ := HAT.out i k m HLK.out hlm
                have HSM := Lib.hid (HSUM.out _ HB.out)
                obtain ⟨_, _, fb3, fb4⟩ := HFB.out _ HB.out
                have hval : f xss X Y ((i * np Y + k) * 4 + m) = abs' (gsm.val xss X Y ((i * np Y + k) * 4 + m)) := rfl
                have hv0 : gsm.val xss X Y ((i * np Y + k) * 4 + m) = som.sum xss (pl1 X Y ((i * np Y + k) * 4 + m)).1 (pl1 X Y ((i * np Y + k) * 4 + m)).2 (pl2 Y ((i * np Y + k) * 4 + m)).1 (pl2 Y ((i * np Y + k) * 4 + m)).2 (pl3 ((i * np Y + k) * 4 + m)) Y := rfl
                rw [← hv0] at HSM
                have XE := Lib.hid (And.intro x1 (And.intro x2 x3))
                rw [x1, x2, x3] at HSM
                obtain ⟨S, hSv⟩ : ∃ S, gsm.val xss X Y ((i * np Y + k) * 4 + m) = S := ⟨_, rfl⟩
                rw [hSv] at HSM fb3 fb4 hval
                obtain ⟨⟨a', b'⟩, hab⟩ : ∃ q, pr X i = q := ⟨_, rfl⟩
                obtain ⟨⟨c', d'⟩, hcd⟩ : ∃ q, pr Y k = q := ⟨_, rfl⟩
                rw [hab, hcd] at XE HSM
                rw [hab] at p0 p1
                rw [hcd] at q0 q1
                have n1 : IntKind.i64.wrap (-S) = -S := IntWalk.i64_in _ (by omega)
                have n2 : wrap64 (-S) = -S := IntWalk.wrap64_in _ (by omega)
                have HVAL := Lib.hid hval
                clear x1 x2 x3 hv0 hval hab hcd hSv fb3 fb4
                obtain ⟨b0, b1, b2, b3, _⟩ := four_cells hS.out.2.box
                go_wp2_with fail
                go_region_held3 (fun w' => w'.cell? ⟨w.heap.size, 0, none⟩ = some (.int .i64 (X : Int)) ∧ w'.cell? ⟨w.heap.size, 1, none⟩ = some (.int .i64 (Y : Int)) ∧ w'.cell? ⟨w.heap.size, 2, none⟩ = some (.int .i64 wh) ∧ w'.cell? ⟨w.heap.size, 3, none⟩ = some (.slice va vn vc) ∧ w'.cell? ⟨g1, i * 2, none⟩ = some (.int .i64 a') ∧ w'.cell? ⟨g1, i * 2 + 1, none⟩ = some (.int .i64 b') ∧ w'.cell? ⟨g2, k * 2, none⟩ = some (.int .i64 c') ∧ w'.cell? ⟨g2, k * 2 + 1, none⟩ = some (.int .i64 d') ∧ Below wm.heap.size wm w')
                  ((refine sop.held44 b0 b1 b2 b3 p0 p1 q0 q1 ?_; repeat (first | exact Below.refl _ _ | assumption | refine below_dr ?_ | refine below_tr ?_ (by assumption))))
                  (first
                    | (go_at_call 134; (with_reducible refine (HSM.out _ (below_tr hS.out.2.below (below_dr (Below.refl _ _)))).mono ?_); rintro e w5 ⟨rfl, hb5⟩))
                have hb6 : Below wm.heap.size wm w5 := below_tr (below_dr (Below.refl _ _)) hb5
                have K5 := Lib.hid (hS.out.2.keep hb6)
                have IS := Lib.hid hS.out.1
                have p0 := below_cell hb6 _ _ p0
                have p1 := below_cell hb6 _ _ p1
                have q0 := below_cell hb6 _ _ q0
                have q1 := below_cell hb6 _ _ q1
                obtain ⟨F, hF⟩ : ∃ F, abs' S = F := ⟨_, rfl⟩
                have HMA := Lib.hid (most_abs S)
                rw [hF] at HMA HVAL
                clear hb5 hb6 b0 b1 b2 b3 hS HSM hF
                go_wp2_with fail
                refine (HMA.out _).mono ?_
                rintro e w' ⟨rfl, rfl⟩
                obtain ⟨k0, k1, k2, k3, k4, k5, k6, _⟩ := seven_cells K5.out.best
                have rf : ∀ j, w5.frozen? ⟨w.heap.size + 1 + 1, j, none⟩ = false := fun j => Joins.unfrozen_of_block K5.out.best j
                clear n1 n2 HMA
                have lk2 : w.heap.size + 1 + 1 < w5.heap.size := K5.out.best.lt
                cases fd
                · have hz := IS.out.zero
                  have HI : Hid (Is xss X Y ((i * np Y + k) * 4 + (m + 1)) F a' b' c' d' (m : Int) true) := Lib.hid (by
                    obtain ⟨x1, x2, x3⟩ := XE.out
                    have hv := HVAL.out
                    have hz' : (i * np Y + k) * 4 + m = 0 := hz
                    show Is xss X Y ((i * np Y + k) * 4 + m + 1) F a' b' c' d' (m : Int) true
                    rw [hz'] at x1 x2 x3 hv ⊢
                    exact Is.first hv x1 x2 x3)
                  clear hz IS
                  go_wp2_with fail
                  go_region_held3 (fun w' => w'.cell? ⟨g1, i * 2, none⟩ = some (.int .i64 a') ∧ w'.cell? ⟨g1, i * 2 + 1, none⟩ = some (.int .i64 b') ∧ w'.cell? ⟨g2, k * 2, none⟩ = some (.int .i64 c') ∧ w'.cell? ⟨g2, k * 2 + 1, none⟩ = some (.int .i64 d'))
                    ((refine offs4 p0 p1 q0 q1 ng1 ng1 ng2 ng2 ?_; repeat (first | (with_reducible exact step.Off.refl _ _) | (with_reducible refine step.Off.drew ?_) | (with_reducible refine step.Off.setCell ?_ _ _ rfl))))
                    (first | fail)
                  have KN := K5.out.store (s' := F) (a' := a') (b' := b') (c' := c') (d' := d') (m' := (m : Int)) (fd' := true)
                  unfold sto at KN
                  have KD := Lib.hid (KN.keep (below_dr (Below.refl _ _)))
                  clear KN k0 k1 k2 k3 k4 k5 k6 rf p0 p1 q0 q1
                  go_wp2_with fail
                  go_roundw
                  case rel => exact ⟨m + 1, by omega, by go_num, ⟨_, rfl⟩, _, _, _, _, _, _, _, Lib.hid ⟨HI.out, KD.out⟩⟩
                  case measure => simp [intOf]; omega
                · by_cases hlt2 : s < F
                  · have HI : Hid (Is xss X Y ((i * np Y + k) * 4 + (m + 1)) F a' b' c' d' (m : Int) true) := Lib.hid (by
                      obtain ⟨x1, x2, x3⟩ := XE.out
                      exact IS.out.more HVAL.out hlt2 x1 x2 x3)
                    clear IS
                    go_wp2_with fail
                    go_region_held3 (fun w' => w'.cell? ⟨g1, i * 2, none⟩ = some (.int .i64 a') ∧ w'.cell? ⟨g1, i * 2 + 1, none⟩ = some (.int .i64 b') ∧ w'.cell? ⟨g2, k * 2, none⟩ = some (.int .i64 c') ∧ w'.cell? ⟨g2, k * 2 + 1, none⟩ = some (.int .i64 d'))
                      ((refine offs4 p0 p1 q0 q1 ng1 ng1 ng2 ng2 ?_; repeat (first | (with_reducible exact step.Off.refl _ _) | (with_reducible refine step.Off.drew ?_) | (with_reducible refine step.Off.setCell ?_ _ _ rfl))))
                      (first | fail)
                    have KN := K5.out.store (s' := F) (a' := a') (b' := b') (c' := c') (d' := d') (m' := (m : Int)) (fd' := true)
                    unfold sto at KN
                    have KD := Lib.hid (KN.keep (below_dr (Below.refl _ _)))
                    clear KN k0 k1 k2 k3 k4 k5 k6 rf p0 p1 q0 q1
                    go_wp2_with fail
                    go_roundw
                    case rel => exact ⟨m + 1, by omega, by go_num, ⟨_, rfl⟩, _, _, _, _, _, _, _, Lib.hid ⟨HI.out, KD.out⟩⟩
                    case measure => simp [intOf]; omega
                  · have HI : Hid (Is xss X Y ((i * np Y + k) * 4 + (m + 1)) s a b c d m0 true) := Lib.hid (IS.out.stay HVAL.out hlt2)
                    clear IS k1 k2 k3 k4 k5 rf p0 p1 q0 q1
                    go_wp2_with fail
                    go_roundw
                    case rel => exact ⟨m + 1, by omega, by go_num, ⟨_, rfl⟩, _, _, _, _, _, _, _, Lib.hid ⟨HI.out, K5.out⟩⟩
                    case measure => simp [intOf]; omega
              · obtain rfl : m = 4 := by omega
                have S6 : Hid (Is xss X Y ((i * np Y + (k + 1)) * 4) s a b c d m0 fd ∧ Keep w wm X Y wh (.slice va vn vc) (.slice ua (np X) uc) (.slice va' (np Y) vc') X Y s a b c d m0 fd) := Lib.hid (by
                  have h5 := hS.out
                  rw [show (i * np Y + k) * 4 + 4 = (i * np Y + (k + 1)) * 4 by omega] at h5
                  exact h5)
                clear hS
                go_wp2_with fail
                go_roundw
                case rel => exact ⟨k + 1, by have := HLK.out; omega, by go_num, ⟨_, rfl⟩, ⟨_, rfl⟩, _, _, _, _, _, _, _, S6⟩
                case measure => have := HLK.out; simp [intOf]; omega
          · have hkz2 : ¬ (k : Int) < ((np Y : Nat) : Int) := by omega
            have hke : k = np Y := by omega
            have S7 : Hid (Is xss X Y ((i + 1) * np Y * 4) s a b c d m0 fd ∧ Keep w wi X Y wh (.slice va vn vc) (.slice ua (np X) uc) (.slice va' (np Y) vc') X Y s a b c d m0 fd) := Lib.hid (by
              have h5 := hS.out
              rw [hke, show (i * np Y + np Y) * 4 = (i + 1) * np Y * 4 by rw [show (i + 1) * np Y = i * np Y + np Y by rw [Nat.add_mul, Nat.one_mul]]] at h5
              exact h5)
            clear hS hke
            go_wp2_with fail
            go_roundw
            case rel => exact ⟨i + 1, by have := HLT.out; omega, by go_num, ⟨_, rfl⟩, ⟨_, rfl⟩, ⟨_, rfl⟩, _, _, _, _, _, _, _, S7⟩
            case measure => have := HLT.out; simp [intOf]; omega
      · have hkz : ¬ (i : Int) < ((np X : Nat) : Int) := by omega
        have hie : i = np X := by omega
        have S8 : Hid (Is xss X Y (num X Y) s a b c d m0 fd) := Lib.hid (by
          have h5 := hS.out.1
          rw [hie] at h5
          exact h5)
        have BE := Lib.hid hS.out.2.below
        obtain ⟨k0, k1, k2, k3, k4, k5, k6, _⟩ := seven_cells hS.out.2.best
        obtain ⟨j0, j1, j2, j3, j4, j5, j6, _⟩ := seven_cells hS.out.2.ans
        have rf : ∀ j, wo.frozen? ⟨w.heap.size + 1, j, none⟩ = false := fun j => Joins.unfrozen_of_block hS.out.2.ans j
        have KA := Lib.hid hS.out.2.ans
        clear hS hie
        go_wp2_with fail
        obtain ⟨f0, f1, f2, f3, f4, f5, f6, _⟩ := seven_cells (sto_blk (s' := s) (a' := a) (b' := b) (c' := c) (d' := d) (m' := m0) (fd' := fd) KA.out)
        have BF : Hid (Below w.heap.size w (sto wo (w.heap.size + 1) s a b c d m0 fd)) := Lib.hid (BE.out.trans ((sto_wrote wo (w.heap.size + 1) s a b c d m0 fd).below (fun p hp => by have : p.block = w.heap.size + 1 := hp; omega)))
        unfold sto at f0 f1 f2 f3 f4 f5 f6 BF
        refine bodyPost_ret (v := .agg (bst s a b c d m0 fd)) ?_ rfl ?_
        · simp [results, Try.results64, go_sem, bst, f0, f1, f2, f3, f4, f5, f6]
        · cases fd
          · exact ⟨s, a, b, c, d, m0, Or.inl ⟨rfl, S8.out, BF.out⟩⟩
          · exact ⟨s, a, b, c, d, m0, Or.inr ⟨rfl, S8.out, BF.out⟩⟩

end Go.Proofs.Ytimfnhejiiagmaa.gsg
