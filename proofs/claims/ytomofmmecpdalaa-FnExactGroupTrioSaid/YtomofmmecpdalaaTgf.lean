/- GroupTrio of the program. -/
import Derived.Test.YtomofmmecpdalaaTtf
import Derived.Deep.DeepCutAuto
namespace Go.Proofs.Ytomofmmecpdalaa.tgf
open Go.RowKit Go.Deep Go.Proofs.Ytomofmmecpdalaa.base
open Go.Proofs.Ytomofmmecpdalaa.ints (infoInt infoInts)
open Go.Proofs.Ytomofmmecpdalaa.tri (two_cells)
open Go.Proofs.Ytomofmmecpdalaa.trb (three_cells b2 b3)
open Go.Proofs.Ytomofmmecpdalaa.grd
open Go.Proofs.Ytomofmmecpdalaa.tvk (Res)
open Go.Proofs.Ytomofmmecpdalaa.trv (okTrio)
open Go.Proofs.Ytomofmmecpdalaa.tto (ND ok_told sl l11of held2f at3z)
open Go.Proofs.Ytomofmmecpdalaa.ttf (pb pb_bit)
open Go.Proofs.Ytomofmmecpdalaa.play (within withinB withinB_yes withinB_no)

/-- the place of the first of two answers in the list of the two others -/
def st (p x y z : Nat) : Nat := if p = 0 then 2 * (2 * y + z) else if p = 1 then 2 * (2 * x + z) else 2 * (2 * x + y)
theorem st_lt {p x y z : Nat} (hx : x < 2) (hy : y < 2) (hz : z < 2) : st p x y z + 1 < 8 := by unfold st; split <;> (try split) <;> omega
def sg3 (p : Nat) (os js : List Int) (x y z : Nat) : Nat × Nat × Nat :=
  if p = 0 then (pb os x, pb js (st p x y z), pb js (st p x y z + 1)) else if p = 1 then (pb js (st p x y z), pb os y, pb js (st p x y z + 1)) else (pb js (st p x y z), pb js (st p x y z + 1), pb os z)
def sg (p : Nat) (os js : List Int) (q : Nat) : Nat := 4 * (sg3 p os js (q / 4 % 2) (q / 2 % 2) (q % 2)).1 + 2 * (sg3 p os js (q / 4 % 2) (q / 2 % 2) (q % 2)).2.1 + (sg3 p os js (q / 4 % 2) (q / 2 % 2) (q % 2)).2.2
theorem sg3_bits {p : Nat} {os js : List Int} (ho : within 2 0 1 os) (hj : within 8 0 1 js) {x y z : Nat} (hx : x < 2) (hy : y < 2) (hz : z < 2) : (sg3 p os js x y z).1 ≤ 1 ∧ (sg3 p os js x y z).2.1 ≤ 1 ∧ (sg3 p os js x y z).2.2 ≤ 1 := by
  have h1 := (pb_bit ho hx).1
  have h2 := (pb_bit ho hy).1
  have h3 := (pb_bit ho hz).1
  have h5 := st_lt (p := p) hx hy hz
  have h4 := (pb_bit hj (show st p x y z < 8 by omega)).1
  have h6 := (pb_bit hj (show st p x y z + 1 < 8 by omega)).1
  unfold sg3
  split
  · exact ⟨h1, h4, h6⟩
  · split
    · exact ⟨h4, h2, h6⟩
    · exact ⟨h4, h6, h3⟩
theorem sg_lt {p : Nat} {os js : List Int} (ho : within 2 0 1 os) (hj : within 8 0 1 js) (q : Nat) : sg p os js q < 8 := by
  have h := sg3_bits (p := p) ho hj (show q / 4 % 2 < 2 by omega) (show q / 2 % 2 < 2 by omega) (show q % 2 < 2 by omega)
  unfold sg
  omega
open Classical in
noncomputable def resG (al : Int) (os js : List Int) (wh : Int) : Res := if (0 ≤ al ∧ al ≤ 2) ∧ within 2 0 1 os ∧ within 8 0 1 js ∧ 1 ≤ wh ∧ wh ≤ 1000 then ⟨wh, rows8 (ND (sg al.toNat os js) wh), true⟩ else Res.zero
theorem resG_yes {al wh : Int} {os js : List Int} (h : (0 ≤ al ∧ al ≤ 2) ∧ within 2 0 1 os ∧ within 8 0 1 js ∧ 1 ≤ wh ∧ wh ≤ 1000) : resG al os js wh = ⟨wh, rows8 (ND (sg al.toNat os js) wh), true⟩ := if_pos h
theorem resG_no {al wh : Int} {os js : List Int} (h : ¬ ((0 ≤ al ∧ al ≤ 2) ∧ within 2 0 1 os ∧ within 8 0 1 js ∧ 1 ≤ wh ∧ wh ≤ 1000)) : resG al os js wh = Res.zero := if_neg h
theorem tot_resG (al : Int) (os js : List Int) (wh : Int) : rws.total (resG al os js wh).rows ≤ 1048576 := by
  by_cases h : (0 ≤ al ∧ al ≤ 2) ∧ within 2 0 1 os ∧ within 8 0 1 js ∧ 1 ≤ wh ∧ wh ≤ 1000
  · rw [resG_yes h]; exact tot_rows8 _
  · rw [resG_no h]; simp [Res.zero, rws.total]
theorem offs6 {R : Nat} {w w' : World} {p0 p1 p2 p3 p4 p5 : Addr} {u0 u1 u2 u3 u4 u5 : Value} {X : Prop} (h0 : w.cell? p0 = some u0) (h1 : w.cell? p1 = some u1) (h2 : w.cell? p2 = some u2) (h3 : w.cell? p3 = some u3) (h4 : w.cell? p4 = some u4) (h5 : w.cell? p5 = some u5)
    (n0 : p0.block ≠ R) (n1 : p1.block ≠ R) (n2 : p2.block ≠ R) (n3 : p3.block ≠ R) (n4 : p4.block ≠ R) (n5 : p5.block ≠ R) (h : step.Off R w w') (hx : X) :
    w'.cell? p0 = some u0 ∧ w'.cell? p1 = some u1 ∧ w'.cell? p2 = some u2 ∧ w'.cell? p3 = some u3 ∧ w'.cell? p4 = some u4 ∧ w'.cell? p5 = some u5 ∧ X :=
  ⟨(h.2 _ n0 (World.block_lt_of_cell? _ _ h0)).trans h0, (h.2 _ n1 (World.block_lt_of_cell? _ _ h1)).trans h1, (h.2 _ n2 (World.block_lt_of_cell? _ _ h2)).trans h2, (h.2 _ n3 (World.block_lt_of_cell? _ _ h3)).trans h3, (h.2 _ n4 (World.block_lt_of_cell? _ _ h4)).trans h4, (h.2 _ n5 (World.block_lt_of_cell? _ _ h5)).trans h5, hx⟩


set_option maxHeartbeats 8000000 in
theorem answers0 (vo vj : Value) (os js : List Int) (q : Nat) (w : World) (ho : Ints w vo os) (hj : Ints w vj js) (hoo : within 2 0 1 os) (hjj : within 8 0 1 js) (_hq : q < 8) :
    Calls Try.prog 69 #[.agg #[.int .i64 0, vo, vj], .agg #[.int .i64 ((q : Int) / 4 % 2), .int .i64 ((q : Int) / 2 % 2), .int .i64 ((q : Int) % 2)]] w fun e w' => e = .returned (.agg #[.int .i64 (((sg 0 os js q : Nat) : Int) / 4 % 2), .int .i64 (((sg 0 os js q : Nat) : Int) / 2 % 2), .int .i64 (((sg 0 os js q : Nat) : Int) % 2)]) ∧ Below w.heap.size w w' := by
  have hlo : os.length = 2 := by have := hoo.1; omega
  have hlj : js.length = 8 := by have := hjj.1; omega
  obtain ⟨Ao, bo, oo, co, rfl, _, _, hAo, hco⟩ := ho.form
  rw [hlo]
  obtain rfl := hAo (by omega)
  obtain ⟨Aj, bj, oj, cj, rfl, _, _, hAj, hcj⟩ := hj.form
  rw [hlj]
  obtain rfl := hAj (by omega)
  obtain ⟨x, hx⟩ : ∃ n, n = q / 4 % 2 := ⟨_, rfl⟩
  obtain ⟨y, hy⟩ : ∃ n, n = q / 2 % 2 := ⟨_, rfl⟩
  obtain ⟨z, hz⟩ : ∃ n, n = q % 2 := ⟨_, rfl⟩
  have hx2 : x < 2 := by omega
  have hy2 : y < 2 := by omega
  have hz2 : z < 2 := by omega
  have ex : (q : Int) / 4 % 2 = (x : Int) := by omega
  have ey : (q : Int) / 2 % 2 = (y : Int) := by omega
  have ez : (q : Int) % 2 = (z : Int) := by omega
  obtain ⟨s, hs⟩ : ∃ n, n = st 0 x y z := ⟨_, rfl⟩
  have hs8 : s + 1 < 8 := by rw [hs]; exact st_lt hx2 hy2 hz2
  have hs2 : s = 2 * (2 * y + z) := hs
  obtain ⟨t, ht⟩ : ∃ n, n = s + 1 := ⟨_, rfl⟩
  obtain ⟨l1, m1⟩ := (pb_bit hjj (show s < 8 by omega)).2
  obtain ⟨l2, m2⟩ := (pb_bit hjj (show t < 8 by omega)).2
  obtain ⟨l3, m3⟩ := (pb_bit hoo hx2).2
  have y1 := hcj s l1
  rw [m1] at y1
  have y2 := hcj t l2
  rw [m2] at y2
  have y3 := hco x l3
  rw [m3] at y3
  have hb1 := (pb_bit hjj (show s < 8 by omega)).1
  have hb2 := (pb_bit hjj (show t < 8 by omega)).1
  have hb3 := (pb_bit hoo hx2).1
  have hans : (.agg #[.int .i64 (((sg 0 os js q : Nat) : Int) / 4 % 2), .int .i64 (((sg 0 os js q : Nat) : Int) / 2 % 2), .int .i64 (((sg 0 os js q : Nat) : Int) % 2)] : Value) = .agg #[.int .i64 (pb os x : Int), .int .i64 (pb js s : Int), .int .i64 (pb js t : Int)] := by
    have e : sg 0 os js q = 4 * pb os x + 2 * pb js s + pb js t := by
      rw [ht, hs, hx, hy, hz]; rfl
    generalize pb js s = J at *
    generalize pb js t = K at *
    generalize pb os x = O at *
    have e1 : ((sg 0 os js q : Nat) : Int) / 4 % 2 = (O : Int) := by omega
    have e2 : ((sg 0 os js q : Nat) : Int) / 2 % 2 = (J : Int) := by omega
    have e3 : ((sg 0 os js q : Nat) : Int) % 2 = (K : Int) := by omega
    rw [e1, e2, e3]
  rw [hans, ex, ey, ez]
  clear hans
  generalize pb js s = J at *
  generalize pb js t = K at *
  generalize pb os x = O at *
  have Y := Lib.hid (And.intro y1 (And.intro y2 y3))
  have kw : IntKind.i64.wrap (2 * (2 * (y : Int) + (z : Int))) = (s : Int) := by rw [IntWalk.i64_in _ (by omega)]; omega
  have kt : IntKind.i64.wrap ((s : Int) + 1) = (t : Int) := by rw [IntWalk.i64_in _ (by omega)]; omega
  have hsz : (s : Int) < 8 := by omega
  have htz : (t : Int) < 8 := by omega
  have hdz : (x : Int) < 2 := by omega
  have HWO := Lib.hid (fun W => (show Calls Try.prog 102 #[.agg #[.int .i64 (x : Int), .int .i64 (y : Int), .int .i64 (z : Int)], .int .i64 0] W fun e w' => e = .returned (.agg #[.int .i64 (y : Int), .int .i64 (z : Int)]) ∧ Below W.heap.size W w' from trb.without0 x y z W))
  have HPL := Lib.hid (fun W => (show Calls Try.prog 103 #[.agg #[.int .i64 (y : Int), .int .i64 (z : Int)]] W fun e w' => e = .returned (.int .i64 (2 * (y : Int) + (z : Int))) ∧ Below W.heap.size W w' from trb.place2_g y z W (by omega) (by omega)))
  have HWI := Lib.hid (fun W => (show Calls Try.prog 104 #[.agg #[.int .i64 (J : Int), .int .i64 (K : Int)], .int .i64 0, .int .i64 (O : Int)] W fun e w' => e = .returned (.agg #[.int .i64 (O : Int), .int .i64 (J : Int), .int .i64 (K : Int)]) ∧ Below W.heap.size W w' from trb.with0 J K O W))
  clear ho hj hoo hjj hlo hlj hAo hAj hco hcj hx hy hz hx2 hy2 hz2 ex ey ez hs hs8 hs2 ht l1 m1 l2 m2 l3 m3 y1 y2 y3 hb1 hb2 hb3
  obtain ⟨W0, hW0⟩ : ∃ W, W = ((w.alloc (.cells #[.int .i64 0, .slice (some ⟨bo, oo, none⟩) 2 co, .slice (some ⟨bj, oj, none⟩) 8 cj] 72)).alloc (.cells #[.int .i64 (x : Int), .int .i64 (y : Int), .int .i64 (z : Int)] 76)).alloc (.cells #[.int .i64 0, .int .i64 0, .int .i64 0] 76) := ⟨_, rfl⟩
  have KG : Hid (Blk W0 w.heap.size 72 #[.int .i64 0, .slice (some ⟨bo, oo, none⟩) 2 co, .slice (some ⟨bj, oj, none⟩) 8 cj]) := Lib.hid (by rw [hW0]; exact ((Blk.new _ _ _).alloc _).alloc _)
  have KQ : Hid (Blk W0 (w.heap.size + 1) 76 #[.int .i64 (x : Int), .int .i64 (y : Int), .int .i64 (z : Int)]) := Lib.hid (by
    rw [hW0]
    have := (Blk.new (w.alloc (.cells #[.int .i64 0, .slice (some ⟨bo, oo, none⟩) 2 co, .slice (some ⟨bj, oj, none⟩) 8 cj] 72)) 76 #[.int .i64 (x : Int), .int .i64 (y : Int), .int .i64 (z : Int)]).alloc (.cells #[.int .i64 0, .int .i64 0, .int .i64 0] 76)
    simpa using this)
  have KR : Hid (Blk W0 (w.heap.size + 1 + 1) 76 #[.int .i64 0, .int .i64 0, .int .i64 0]) := Lib.hid (by
    rw [hW0]
    have := Blk.new ((w.alloc (.cells #[.int .i64 0, .slice (some ⟨bo, oo, none⟩) 2 co, .slice (some ⟨bj, oj, none⟩) 8 cj] 72)).alloc (.cells #[.int .i64 (x : Int), .int .i64 (y : Int), .int .i64 (z : Int)] 76)) 76 #[.int .i64 0, .int .i64 0, .int .i64 0]
    simpa using this)
  have B0 : Hid (Below w.heap.size w W0) := Lib.hid (by rw [hW0]; exact below_al (below_al (below_al (Below.refl _ _) _) _) _)
  obtain ⟨g0, g1, g2, _⟩ := three_cells KG.out
  obtain ⟨q0, q1, q2, _⟩ := three_cells KQ.out
  rw [hW0] at g0 g1 g2 q0 q1 q2
  go_enter Try.func69, Try.ntmps69
  go_wp2_with fail
  rw [← hW0]
  clear hW0 g0 g1 g2 q0 q1 q2
  refine (HWO.out _).mono ?_
  rintro e w1 ⟨rfl, hb1⟩
  go_wp2_with fail
  refine (HPL.out _).mono ?_
  rintro e w2 ⟨rfl, hb2⟩
  have B2 := Lib.hid (below_tr hb1 hb2)
  clear hb1 hb2 HWO HPL
  obtain ⟨g0, g1, g2, _⟩ := three_cells (KG.out.below B2.out)
  have y1 := below_cell (below_tr B0.out B2.out) _ _ Y.out.1
  have y2 := below_cell (below_tr B0.out B2.out) _ _ Y.out.2.1
  go_upto_region 2 with fail
  go_cut [6] (fun s6 wx => ∃ g : Nat, s6 = .pointer (some ⟨g, 0, none⟩) ∧ Hid (w2.heap.size ≤ g ∧ Blk wx g 95 #[.int .i64 (J : Int), .int .i64 (K : Int)] ∧ Below w2.heap.size w2 wx))
  case first =>
    have L2 : Hid (∀ W : World, Below w2.heap.size w2 W → w2.heap.size ≤ W.heap.size ∧ Blk (W.alloc (.cells #[.int .i64 (J : Int), .int .i64 (K : Int)] 95)) W.heap.size 95 #[.int .i64 (J : Int), .int .i64 (K : Int)] ∧ Below w2.heap.size w2 (W.alloc (.cells #[.int .i64 (J : Int), .int .i64 (K : Int)] 95))) := Lib.hid (fun W hW => ⟨hW.size, Blk.new _ _ _, below_al hW _⟩)
    go_region_held3 (fun w' => w'.cell? ⟨w.heap.size, 2, none⟩ = some (.slice (some ⟨bj, oj, none⟩) 8 cj) ∧ w'.cell? ⟨bj, oj + s, none⟩ = some (.int .i64 (J : Int)) ∧ w'.cell? ⟨bj, oj + t, none⟩ = some (.int .i64 (K : Int)) ∧ Below w2.heap.size w2 w')
      ((refine ⟨below_cell ?_ _ _ g2, below_cell ?_ _ _ y1, below_cell ?_ _ _ y2, ?_⟩; all_goals (repeat (first | (with_reducible exact Below.refl _ _) | (with_reducible refine below_dr ?_) | (with_reducible refine below_al ?_ _) | (with_reducible refine Below.setCell ?_ (by first | (simp; done) | (simp; omega) | omega) _)))))
      (fail)
    all_goals
      go_wp2_with fail
      go_meet
      first
        | exact ⟨_, rfl, Lib.hid (L2.out _ (below_dr (Below.refl _ _)))⟩
        | (refine ⟨_, rfl, Lib.hid ?_⟩; have h := L2.out w2 (Below.refl _ _); exact ⟨h.1, h.2.1.below (below_dr (Below.refl _ _)), below_dr h.2.2⟩)
  case rest =>
    obtain ⟨g, rfl, HG⟩ := hcut
    clear g0 g1 g2 y1 y2
    have B3 := Lib.hid (below_tr B2.out HG.out.2.2)
    have Z := Lib.hid (And.intro KR.out.lt (And.intro B2.out.size HG.out.1))
    have zz := Z.out
    have hbo := World.block_lt_of_cell? _ _ Y.out.2.2
    have y3 := below_cell (below_tr B0.out B3.out) _ _ Y.out.2.2
    obtain ⟨g0, g1, g2, _⟩ := three_cells (KG.out.below B3.out)
    obtain ⟨q0, q1, q2, _⟩ := three_cells (KQ.out.below B3.out)
    obtain ⟨k0, k1, _⟩ := two_cells HG.out.2.1
    have n1 : w.heap.size ≠ w.heap.size + 1 + 1 := by omega
    have n2 : w.heap.size + 1 ≠ w.heap.size + 1 + 1 := by omega
    have n3 : g ≠ w.heap.size + 1 + 1 := by omega
    have n4 : bo ≠ w.heap.size + 1 + 1 := by simp at hbo; omega
    have KR3 := Lib.hid (KR.out.below B3.out)
    have BB := Lib.hid (below_tr B0.out B3.out)
    clear hbo zz
    go_upto_region 3 with fail
    go_region_held3 (fun w' => w'.cell? ⟨g, 0, none⟩ = some (.int .i64 (J : Int)) ∧ w'.cell? ⟨g, 1, none⟩ = some (.int .i64 (K : Int)) ∧ w'.cell? ⟨w.heap.size, 0, none⟩ = some (.int .i64 0) ∧ w'.cell? ⟨w.heap.size, 1, none⟩ = some (.slice (some ⟨bo, oo, none⟩) 2 co) ∧ w'.cell? ⟨w.heap.size + 1, 0, none⟩ = some (.int .i64 (x : Int)) ∧ w'.cell? ⟨bo, oo + x, none⟩ = some (.int .i64 (O : Int)) ∧ True)
      ((refine offs6 (R := w.heap.size + 1 + 1) k0 k1 g0 g1 q0 y3 n3 n3 n1 n1 n2 n4 ?_ trivial; repeat (first | (with_reducible exact step.Off.refl _ _) | (with_reducible refine step.Off.drew ?_) | (with_reducible refine step.Off.setCell ?_ _ _ rfl) | (with_reducible refine step.Off.below ?_ (by assumption)))))
      (first | (go_at_call 104; (with_reducible refine (HWI.out _).mono ?_); rintro e w8 ⟨rfl, hb8⟩; have K8 := KR3.out.below (below_tr (below_dr (Below.refl _ _)) hb8); have B8 := Lib.hid (below_tr BB.out (below_tr (below_dr (Below.refl _ _)) hb8)); obtain ⟨r0, r1, r2, _⟩ := three_cells K8; have rf := fun k => Joins.unfrozen_of_block K8 k))
    go_wp2_with fail
    refine bodyPost_ret (v := .agg #[.int .i64 (O : Int), .int .i64 (J : Int), .int .i64 (K : Int)]) (by simp [results, Try.results69, go_sem, r0, r1, r2]) rfl ⟨rfl, ?_⟩
    repeat (first | (with_reducible exact B8.out) | (with_reducible refine Below.setCell ?_ (by simp <;> omega) _))



set_option maxHeartbeats 8000000 in
theorem answers1 (vo vj : Value) (os js : List Int) (q : Nat) (w : World) (ho : Ints w vo os) (hj : Ints w vj js) (hoo : within 2 0 1 os) (hjj : within 8 0 1 js) (_hq : q < 8) :
    Calls Try.prog 69 #[.agg #[.int .i64 1, vo, vj], .agg #[.int .i64 ((q : Int) / 4 % 2), .int .i64 ((q : Int) / 2 % 2), .int .i64 ((q : Int) % 2)]] w fun e w' => e = .returned (.agg #[.int .i64 (((sg 1 os js q : Nat) : Int) / 4 % 2), .int .i64 (((sg 1 os js q : Nat) : Int) / 2 % 2), .int .i64 (((sg 1 os js q : Nat) : Int) % 2)]) ∧ Below w.heap.size w w' := by
  have hlo : os.length = 2 := by have := hoo.1; omega
  have hlj : js.length = 8 := by have := hjj.1; omega
  obtain ⟨Ao, bo, oo, co, rfl, _, _, hAo, hco⟩ := ho.form
  rw [hlo]
  obtain rfl := hAo (by omega)
  obtain ⟨Aj, bj, oj, cj, rfl, _, _, hAj, hcj⟩ := hj.form
  rw [hlj]
  obtain rfl := hAj (by omega)
  obtain ⟨x, hx⟩ : ∃ n, n = q / 4 % 2 := ⟨_, rfl⟩
  obtain ⟨y, hy⟩ : ∃ n, n = q / 2 % 2 := ⟨_, rfl⟩
  obtain ⟨z, hz⟩ : ∃ n, n = q % 2 := ⟨_, rfl⟩
  have hx2 : x < 2 := by omega
  have hy2 : y < 2 := by omega
  have hz2 : z < 2 := by omega
  have ex : (q : Int) / 4 % 2 = (x : Int) := by omega
  have ey : (q : Int) / 2 % 2 = (y : Int) := by omega
  have ez : (q : Int) % 2 = (z : Int) := by omega
  obtain ⟨s, hs⟩ : ∃ n, n = st 1 x y z := ⟨_, rfl⟩
  have hs8 : s + 1 < 8 := by rw [hs]; exact st_lt hx2 hy2 hz2
  have hs2 : s = 2 * (2 * x + z) := hs
  obtain ⟨t, ht⟩ : ∃ n, n = s + 1 := ⟨_, rfl⟩
  obtain ⟨l1, m1⟩ := (pb_bit hjj (show s < 8 by omega)).2
  obtain ⟨l2, m2⟩ := (pb_bit hjj (show t < 8 by omega)).2
  obtain ⟨l3, m3⟩ := (pb_bit hoo hy2).2
  have y1 := hcj s l1
  rw [m1] at y1
  have y2 := hcj t l2
  rw [m2] at y2
  have y3 := hco y l3
  rw [m3] at y3
  have hb1 := (pb_bit hjj (show s < 8 by omega)).1
  have hb2 := (pb_bit hjj (show t < 8 by omega)).1
  have hb3 := (pb_bit hoo hy2).1
  have hans : (.agg #[.int .i64 (((sg 1 os js q : Nat) : Int) / 4 % 2), .int .i64 (((sg 1 os js q : Nat) : Int) / 2 % 2), .int .i64 (((sg 1 os js q : Nat) : Int) % 2)] : Value) = .agg #[.int .i64 (pb js s : Int), .int .i64 (pb os y : Int), .int .i64 (pb js t : Int)] := by
    have e : sg 1 os js q = 4 * pb js s + 2 * pb os y + pb js t := by
      rw [ht, hs, hx, hy, hz]; rfl
    generalize pb js s = J at *
    generalize pb js t = K at *
    generalize pb os y = O at *
    have e1 : ((sg 1 os js q : Nat) : Int) / 4 % 2 = (J : Int) := by omega
    have e2 : ((sg 1 os js q : Nat) : Int) / 2 % 2 = (O : Int) := by omega
    have e3 : ((sg 1 os js q : Nat) : Int) % 2 = (K : Int) := by omega
    rw [e1, e2, e3]
  rw [hans, ex, ey, ez]
  clear hans
  generalize pb js s = J at *
  generalize pb js t = K at *
  generalize pb os y = O at *
  have Y := Lib.hid (And.intro y1 (And.intro y2 y3))
  have kw : IntKind.i64.wrap (2 * (2 * (x : Int) + (z : Int))) = (s : Int) := by rw [IntWalk.i64_in _ (by omega)]; omega
  have kt : IntKind.i64.wrap ((s : Int) + 1) = (t : Int) := by rw [IntWalk.i64_in _ (by omega)]; omega
  have hsz : (s : Int) < 8 := by omega
  have htz : (t : Int) < 8 := by omega
  have hdz : (y : Int) < 2 := by omega
  have HWO := Lib.hid (fun W => (show Calls Try.prog 102 #[.agg #[.int .i64 (x : Int), .int .i64 (y : Int), .int .i64 (z : Int)], .int .i64 1] W fun e w' => e = .returned (.agg #[.int .i64 (x : Int), .int .i64 (z : Int)]) ∧ Below W.heap.size W w' from trb.without1 x y z W))
  have HPL := Lib.hid (fun W => (show Calls Try.prog 103 #[.agg #[.int .i64 (x : Int), .int .i64 (z : Int)]] W fun e w' => e = .returned (.int .i64 (2 * (x : Int) + (z : Int))) ∧ Below W.heap.size W w' from trb.place2_g x z W (by omega) (by omega)))
  have HWI := Lib.hid (fun W => (show Calls Try.prog 104 #[.agg #[.int .i64 (J : Int), .int .i64 (K : Int)], .int .i64 1, .int .i64 (O : Int)] W fun e w' => e = .returned (.agg #[.int .i64 (J : Int), .int .i64 (O : Int), .int .i64 (K : Int)]) ∧ Below W.heap.size W w' from trb.with1 J K O W))
  clear ho hj hoo hjj hlo hlj hAo hAj hco hcj hx hy hz hx2 hy2 hz2 ex ey ez hs hs8 hs2 ht l1 m1 l2 m2 l3 m3 y1 y2 y3 hb1 hb2 hb3
  obtain ⟨W0, hW0⟩ : ∃ W, W = ((w.alloc (.cells #[.int .i64 1, .slice (some ⟨bo, oo, none⟩) 2 co, .slice (some ⟨bj, oj, none⟩) 8 cj] 72)).alloc (.cells #[.int .i64 (x : Int), .int .i64 (y : Int), .int .i64 (z : Int)] 76)).alloc (.cells #[.int .i64 0, .int .i64 0, .int .i64 0] 76) := ⟨_, rfl⟩
  have KG : Hid (Blk W0 w.heap.size 72 #[.int .i64 1, .slice (some ⟨bo, oo, none⟩) 2 co, .slice (some ⟨bj, oj, none⟩) 8 cj]) := Lib.hid (by rw [hW0]; exact ((Blk.new _ _ _).alloc _).alloc _)
  have KQ : Hid (Blk W0 (w.heap.size + 1) 76 #[.int .i64 (x : Int), .int .i64 (y : Int), .int .i64 (z : Int)]) := Lib.hid (by
    rw [hW0]
    have := (Blk.new (w.alloc (.cells #[.int .i64 1, .slice (some ⟨bo, oo, none⟩) 2 co, .slice (some ⟨bj, oj, none⟩) 8 cj] 72)) 76 #[.int .i64 (x : Int), .int .i64 (y : Int), .int .i64 (z : Int)]).alloc (.cells #[.int .i64 0, .int .i64 0, .int .i64 0] 76)
    simpa using this)
  have KR : Hid (Blk W0 (w.heap.size + 1 + 1) 76 #[.int .i64 0, .int .i64 0, .int .i64 0]) := Lib.hid (by
    rw [hW0]
    have := Blk.new ((w.alloc (.cells #[.int .i64 1, .slice (some ⟨bo, oo, none⟩) 2 co, .slice (some ⟨bj, oj, none⟩) 8 cj] 72)).alloc (.cells #[.int .i64 (x : Int), .int .i64 (y : Int), .int .i64 (z : Int)] 76)) 76 #[.int .i64 0, .int .i64 0, .int .i64 0]
    simpa using this)
  have B0 : Hid (Below w.heap.size w W0) := Lib.hid (by rw [hW0]; exact below_al (below_al (below_al (Below.refl _ _) _) _) _)
  obtain ⟨g0, g1, g2, _⟩ := three_cells KG.out
  obtain ⟨q0, q1, q2, _⟩ := three_cells KQ.out
  rw [hW0] at g0 g1 g2 q0 q1 q2
  go_enter Try.func69, Try.ntmps69
  go_wp2_with fail
  rw [← hW0]
  clear hW0 g0 g1 g2 q0 q1 q2
  refine (HWO.out _).mono ?_
  rintro e w1 ⟨rfl, hb1⟩
  go_wp2_with fail
  refine (HPL.out _).mono ?_
  rintro e w2 ⟨rfl, hb2⟩
  have B2 := Lib.hid (below_tr hb1 hb2)
  clear hb1 hb2 HWO HPL
  obtain ⟨g0, g1, g2, _⟩ := three_cells (KG.out.below B2.out)
  have y1 := below_cell (below_tr B0.out B2.out) _ _ Y.out.1
  have y2 := below_cell (below_tr B0.out B2.out) _ _ Y.out.2.1
  go_upto_region 2 with fail
  go_cut [6] (fun s6 wx => ∃ g : Nat, s6 = .pointer (some ⟨g, 0, none⟩) ∧ Hid (w2.heap.size ≤ g ∧ Blk wx g 95 #[.int .i64 (J : Int), .int .i64 (K : Int)] ∧ Below w2.heap.size w2 wx))
  case first =>
    have L2 : Hid (∀ W : World, Below w2.heap.size w2 W → w2.heap.size ≤ W.heap.size ∧ Blk (W.alloc (.cells #[.int .i64 (J : Int), .int .i64 (K : Int)] 95)) W.heap.size 95 #[.int .i64 (J : Int), .int .i64 (K : Int)] ∧ Below w2.heap.size w2 (W.alloc (.cells #[.int .i64 (J : Int), .int .i64 (K : Int)] 95))) := Lib.hid (fun W hW => ⟨hW.size, Blk.new _ _ _, below_al hW _⟩)
    go_region_held3 (fun w' => w'.cell? ⟨w.heap.size, 2, none⟩ = some (.slice (some ⟨bj, oj, none⟩) 8 cj) ∧ w'.cell? ⟨bj, oj + s, none⟩ = some (.int .i64 (J : Int)) ∧ w'.cell? ⟨bj, oj + t, none⟩ = some (.int .i64 (K : Int)) ∧ Below w2.heap.size w2 w')
      ((refine ⟨below_cell ?_ _ _ g2, below_cell ?_ _ _ y1, below_cell ?_ _ _ y2, ?_⟩; all_goals (repeat (first | (with_reducible exact Below.refl _ _) | (with_reducible refine below_dr ?_) | (with_reducible refine below_al ?_ _) | (with_reducible refine Below.setCell ?_ (by first | (simp; done) | (simp; omega) | omega) _)))))
      (fail)
    all_goals
      go_wp2_with fail
      go_meet
      first
        | exact ⟨_, rfl, Lib.hid (L2.out _ (below_dr (Below.refl _ _)))⟩
        | (refine ⟨_, rfl, Lib.hid ?_⟩; have h := L2.out w2 (Below.refl _ _); exact ⟨h.1, h.2.1.below (below_dr (Below.refl _ _)), below_dr h.2.2⟩)
  case rest =>
    obtain ⟨g, rfl, HG⟩ := hcut
    clear g0 g1 g2 y1 y2
    have B3 := Lib.hid (below_tr B2.out HG.out.2.2)
    have Z := Lib.hid (And.intro KR.out.lt (And.intro B2.out.size HG.out.1))
    have zz := Z.out
    have hbo := World.block_lt_of_cell? _ _ Y.out.2.2
    have y3 := below_cell (below_tr B0.out B3.out) _ _ Y.out.2.2
    obtain ⟨g0, g1, g2, _⟩ := three_cells (KG.out.below B3.out)
    obtain ⟨q0, q1, q2, _⟩ := three_cells (KQ.out.below B3.out)
    obtain ⟨k0, k1, _⟩ := two_cells HG.out.2.1
    have n1 : w.heap.size ≠ w.heap.size + 1 + 1 := by omega
    have n2 : w.heap.size + 1 ≠ w.heap.size + 1 + 1 := by omega
    have n3 : g ≠ w.heap.size + 1 + 1 := by omega
    have n4 : bo ≠ w.heap.size + 1 + 1 := by simp at hbo; omega
    have KR3 := Lib.hid (KR.out.below B3.out)
    have BB := Lib.hid (below_tr B0.out B3.out)
    clear hbo zz
    go_upto_region 3 with fail
    go_region_held3 (fun w' => w'.cell? ⟨g, 0, none⟩ = some (.int .i64 (J : Int)) ∧ w'.cell? ⟨g, 1, none⟩ = some (.int .i64 (K : Int)) ∧ w'.cell? ⟨w.heap.size, 0, none⟩ = some (.int .i64 1) ∧ w'.cell? ⟨w.heap.size, 1, none⟩ = some (.slice (some ⟨bo, oo, none⟩) 2 co) ∧ w'.cell? ⟨w.heap.size + 1, 1, none⟩ = some (.int .i64 (y : Int)) ∧ w'.cell? ⟨bo, oo + y, none⟩ = some (.int .i64 (O : Int)) ∧ True)
      ((refine offs6 (R := w.heap.size + 1 + 1) k0 k1 g0 g1 q1 y3 n3 n3 n1 n1 n2 n4 ?_ trivial; repeat (first | (with_reducible exact step.Off.refl _ _) | (with_reducible refine step.Off.drew ?_) | (with_reducible refine step.Off.setCell ?_ _ _ rfl) | (with_reducible refine step.Off.below ?_ (by assumption)))))
      (first | (go_at_call 104; (with_reducible refine (HWI.out _).mono ?_); rintro e w8 ⟨rfl, hb8⟩; have K8 := KR3.out.below (below_tr (below_dr (Below.refl _ _)) hb8); have B8 := Lib.hid (below_tr BB.out (below_tr (below_dr (Below.refl _ _)) hb8)); obtain ⟨r0, r1, r2, _⟩ := three_cells K8; have rf := fun k => Joins.unfrozen_of_block K8 k))
    go_wp2_with fail
    refine bodyPost_ret (v := .agg #[.int .i64 (J : Int), .int .i64 (O : Int), .int .i64 (K : Int)]) (by simp [results, Try.results69, go_sem, r0, r1, r2]) rfl ⟨rfl, ?_⟩
    repeat (first | (with_reducible exact B8.out) | (with_reducible refine Below.setCell ?_ (by simp <;> omega) _))



set_option maxHeartbeats 8000000 in
theorem answers2 (vo vj : Value) (os js : List Int) (q : Nat) (w : World) (ho : Ints w vo os) (hj : Ints w vj js) (hoo : within 2 0 1 os) (hjj : within 8 0 1 js) (_hq : q < 8) :
    Calls Try.prog 69 #[.agg #[.int .i64 2, vo, vj], .agg #[.int .i64 ((q : Int) / 4 % 2), .int .i64 ((q : Int) / 2 % 2), .int .i64 ((q : Int) % 2)]] w fun e w' => e = .returned (.agg #[.int .i64 (((sg 2 os js q : Nat) : Int) / 4 % 2), .int .i64 (((sg 2 os js q : Nat) : Int) / 2 % 2), .int .i64 (((sg 2 os js q : Nat) : Int) % 2)]) ∧ Below w.heap.size w w' := by
  have hlo : os.length = 2 := by have := hoo.1; omega
  have hlj : js.length = 8 := by have := hjj.1; omega
  obtain ⟨Ao, bo, oo, co, rfl, _, _, hAo, hco⟩ := ho.form
  rw [hlo]
  obtain rfl := hAo (by omega)
  obtain ⟨Aj, bj, oj, cj, rfl, _, _, hAj, hcj⟩ := hj.form
  rw [hlj]
  obtain rfl := hAj (by omega)
  obtain ⟨x, hx⟩ : ∃ n, n = q / 4 % 2 := ⟨_, rfl⟩
  obtain ⟨y, hy⟩ : ∃ n, n = q / 2 % 2 := ⟨_, rfl⟩
  obtain ⟨z, hz⟩ : ∃ n, n = q % 2 := ⟨_, rfl⟩
  have hx2 : x < 2 := by omega
  have hy2 : y < 2 := by omega
  have hz2 : z < 2 := by omega
  have ex : (q : Int) / 4 % 2 = (x : Int) := by omega
  have ey : (q : Int) / 2 % 2 = (y : Int) := by omega
  have ez : (q : Int) % 2 = (z : Int) := by omega
  obtain ⟨s, hs⟩ : ∃ n, n = st 2 x y z := ⟨_, rfl⟩
  have hs8 : s + 1 < 8 := by rw [hs]; exact st_lt hx2 hy2 hz2
  have hs2 : s = 2 * (2 * x + y) := hs
  obtain ⟨t, ht⟩ : ∃ n, n = s + 1 := ⟨_, rfl⟩
  obtain ⟨l1, m1⟩ := (pb_bit hjj (show s < 8 by omega)).2
  obtain ⟨l2, m2⟩ := (pb_bit hjj (show t < 8 by omega)).2
  obtain ⟨l3, m3⟩ := (pb_bit hoo hz2).2
  have y1 := hcj s l1
  rw [m1] at y1
  have y2 := hcj t l2
  rw [m2] at y2
  have y3 := hco z l3
  rw [m3] at y3
  have hb1 := (pb_bit hjj (show s < 8 by omega)).1
  have hb2 := (pb_bit hjj (show t < 8 by omega)).1
  have hb3 := (pb_bit hoo hz2).1
  have hans : (.agg #[.int .i64 (((sg 2 os js q : Nat) : Int) / 4 % 2), .int .i64 (((sg 2 os js q : Nat) : Int) / 2 % 2), .int .i64 (((sg 2 os js q : Nat) : Int) % 2)] : Value) = .agg #[.int .i64 (pb js s : Int), .int .i64 (pb js t : Int), .int .i64 (pb os z : Int)] := by
    have e : sg 2 os js q = 4 * pb js s + 2 * pb js t + pb os z := by
      rw [ht, hs, hx, hy, hz]; rfl
    generalize pb js s = J at *
    generalize pb js t = K at *
    generalize pb os z = O at *
    have e1 : ((sg 2 os js q : Nat) : Int) / 4 % 2 = (J : Int) := by omega
    have e2 : ((sg 2 os js q : Nat) : Int) / 2 % 2 = (K : Int) := by omega
    have e3 : ((sg 2 os js q : Nat) : Int) % 2 = (O : Int) := by omega
    rw [e1, e2, e3]
  rw [hans, ex, ey, ez]
  clear hans
  generalize pb js s = J at *
  generalize pb js t = K at *
  generalize pb os z = O at *
  have Y := Lib.hid (And.intro y1 (And.intro y2 y3))
  have kw : IntKind.i64.wrap (2 * (2 * (x : Int) + (y : Int))) = (s : Int) := by rw [IntWalk.i64_in _ (by omega)]; omega
  have kt : IntKind.i64.wrap ((s : Int) + 1) = (t : Int) := by rw [IntWalk.i64_in _ (by omega)]; omega
  have hsz : (s : Int) < 8 := by omega
  have htz : (t : Int) < 8 := by omega
  have hdz : (z : Int) < 2 := by omega
  have HWO := Lib.hid (fun W => (show Calls Try.prog 102 #[.agg #[.int .i64 (x : Int), .int .i64 (y : Int), .int .i64 (z : Int)], .int .i64 2] W fun e w' => e = .returned (.agg #[.int .i64 (x : Int), .int .i64 (y : Int)]) ∧ Below W.heap.size W w' from trb.without2 x y z W))
  have HPL := Lib.hid (fun W => (show Calls Try.prog 103 #[.agg #[.int .i64 (x : Int), .int .i64 (y : Int)]] W fun e w' => e = .returned (.int .i64 (2 * (x : Int) + (y : Int))) ∧ Below W.heap.size W w' from trb.place2_g x y W (by omega) (by omega)))
  have HWI := Lib.hid (fun W => (show Calls Try.prog 104 #[.agg #[.int .i64 (J : Int), .int .i64 (K : Int)], .int .i64 2, .int .i64 (O : Int)] W fun e w' => e = .returned (.agg #[.int .i64 (J : Int), .int .i64 (K : Int), .int .i64 (O : Int)]) ∧ Below W.heap.size W w' from trb.with2 J K O W))
  clear ho hj hoo hjj hlo hlj hAo hAj hco hcj hx hy hz hx2 hy2 hz2 ex ey ez hs hs8 hs2 ht l1 m1 l2 m2 l3 m3 y1 y2 y3 hb1 hb2 hb3
  obtain ⟨W0, hW0⟩ : ∃ W, W = ((w.alloc (.cells #[.int .i64 2, .slice (some ⟨bo, oo, none⟩) 2 co, .slice (some ⟨bj, oj, none⟩) 8 cj] 72)).alloc (.cells #[.int .i64 (x : Int), .int .i64 (y : Int), .int .i64 (z : Int)] 76)).alloc (.cells #[.int .i64 0, .int .i64 0, .int .i64 0] 76) := ⟨_, rfl⟩
  have KG : Hid (Blk W0 w.heap.size 72 #[.int .i64 2, .slice (some ⟨bo, oo, none⟩) 2 co, .slice (some ⟨bj, oj, none⟩) 8 cj]) := Lib.hid (by rw [hW0]; exact ((Blk.new _ _ _).alloc _).alloc _)
  have KQ : Hid (Blk W0 (w.heap.size + 1) 76 #[.int .i64 (x : Int), .int .i64 (y : Int), .int .i64 (z : Int)]) := Lib.hid (by
    rw [hW0]
    have := (Blk.new (w.alloc (.cells #[.int .i64 2, .slice (some ⟨bo, oo, none⟩) 2 co, .slice (some ⟨bj, oj, none⟩) 8 cj] 72)) 76 #[.int .i64 (x : Int), .int .i64 (y : Int), .int .i64 (z : Int)]).alloc (.cells #[.int .i64 0, .int .i64 0, .int .i64 0] 76)
    simpa using this)
  have KR : Hid (Blk W0 (w.heap.size + 1 + 1) 76 #[.int .i64 0, .int .i64 0, .int .i64 0]) := Lib.hid (by
    rw [hW0]
    have := Blk.new ((w.alloc (.cells #[.int .i64 2, .slice (some ⟨bo, oo, none⟩) 2 co, .slice (some ⟨bj, oj, none⟩) 8 cj] 72)).alloc (.cells #[.int .i64 (x : Int), .int .i64 (y : Int), .int .i64 (z : Int)] 76)) 76 #[.int .i64 0, .int .i64 0, .int .i64 0]
    simpa using this)
  have B0 : Hid (Below w.heap.size w W0) := Lib.hid (by rw [hW0]; exact below_al (below_al (below_al (Below.refl _ _) _) _) _)
  obtain ⟨g0, g1, g2, _⟩ := three_cells KG.out
  obtain ⟨q0, q1, q2, _⟩ := three_cells KQ.out
  rw [hW0] at g0 g1 g2 q0 q1 q2
  go_enter Try.func69, Try.ntmps69
  go_wp2_with fail
  rw [← hW0]
  clear hW0 g0 g1 g2 q0 q1 q2
  refine (HWO.out _).mono ?_
  rintro e w1 ⟨rfl, hb1⟩
  go_wp2_with fail
  refine (HPL.out _).mono ?_
  rintro e w2 ⟨rfl, hb2⟩
  have B2 := Lib.hid (below_tr hb1 hb2)
  clear hb1 hb2 HWO HPL
  obtain ⟨g0, g1, g2, _⟩ := three_cells (KG.out.below B2.out)
  have y1 := below_cell (below_tr B0.out B2.out) _ _ Y.out.1
  have y2 := below_cell (below_tr B0.out B2.out) _ _ Y.out.2.1
  go_upto_region 2 with fail
  go_cut [6] (fun s6 wx => ∃ g : Nat, s6 = .pointer (some ⟨g, 0, none⟩) ∧ Hid (w2.heap.size ≤ g ∧ Blk wx g 95 #[.int .i64 (J : Int), .int .i64 (K : Int)] ∧ Below w2.heap.size w2 wx))
  case first =>
    have L2 : Hid (∀ W : World, Below w2.heap.size w2 W → w2.heap.size ≤ W.heap.size ∧ Blk (W.alloc (.cells #[.int .i64 (J : Int), .int .i64 (K : Int)] 95)) W.heap.size 95 #[.int .i64 (J : Int), .int .i64 (K : Int)] ∧ Below w2.heap.size w2 (W.alloc (.cells #[.int .i64 (J : Int), .int .i64 (K : Int)] 95))) := Lib.hid (fun W hW => ⟨hW.size, Blk.new _ _ _, below_al hW _⟩)
    go_region_held3 (fun w' => w'.cell? ⟨w.heap.size, 2, none⟩ = some (.slice (some ⟨bj, oj, none⟩) 8 cj) ∧ w'.cell? ⟨bj, oj + s, none⟩ = some (.int .i64 (J : Int)) ∧ w'.cell? ⟨bj, oj + t, none⟩ = some (.int .i64 (K : Int)) ∧ Below w2.heap.size w2 w')
      ((refine ⟨below_cell ?_ _ _ g2, below_cell ?_ _ _ y1, below_cell ?_ _ _ y2, ?_⟩; all_goals (repeat (first | (with_reducible exact Below.refl _ _) | (with_reducible refine below_dr ?_) | (with_reducible refine below_al ?_ _) | (with_reducible refine Below.setCell ?_ (by first | (simp; done) | (simp; omega) | omega) _)))))
      (fail)
    all_goals
      go_wp2_with fail
      go_meet
      first
        | exact ⟨_, rfl, Lib.hid (L2.out _ (below_dr (Below.refl _ _)))⟩
        | (refine ⟨_, rfl, Lib.hid ?_⟩; have h := L2.out w2 (Below.refl _ _); exact ⟨h.1, h.2.1.below (below_dr (Below.refl _ _)), below_dr h.2.2⟩)
  case rest =>
    obtain ⟨g, rfl, HG⟩ := hcut
    clear g0 g1 g2 y1 y2
    have B3 := Lib.hid (below_tr B2.out HG.out.2.2)
    have Z := Lib.hid (And.intro KR.out.lt (And.intro B2.out.size HG.out.1))
    have zz := Z.out
    have hbo := World.block_lt_of_cell? _ _ Y.out.2.2
    have y3 := below_cell (below_tr B0.out B3.out) _ _ Y.out.2.2
    obtain ⟨g0, g1, g2, _⟩ := three_cells (KG.out.below B3.out)
    obtain ⟨q0, q1, q2, _⟩ := three_cells (KQ.out.below B3.out)
    obtain ⟨k0, k1, _⟩ := two_cells HG.out.2.1
    have n1 : w.heap.size ≠ w.heap.size + 1 + 1 := by omega
    have n2 : w.heap.size + 1 ≠ w.heap.size + 1 + 1 := by omega
    have n3 : g ≠ w.heap.size + 1 + 1 := by omega
    have n4 : bo ≠ w.heap.size + 1 + 1 := by simp at hbo; omega
    have KR3 := Lib.hid (KR.out.below B3.out)
    have BB := Lib.hid (below_tr B0.out B3.out)
    clear hbo zz
    go_upto_region 3 with fail
    go_region_held3 (fun w' => w'.cell? ⟨g, 0, none⟩ = some (.int .i64 (J : Int)) ∧ w'.cell? ⟨g, 1, none⟩ = some (.int .i64 (K : Int)) ∧ w'.cell? ⟨w.heap.size, 0, none⟩ = some (.int .i64 2) ∧ w'.cell? ⟨w.heap.size, 1, none⟩ = some (.slice (some ⟨bo, oo, none⟩) 2 co) ∧ w'.cell? ⟨w.heap.size + 1, 2, none⟩ = some (.int .i64 (z : Int)) ∧ w'.cell? ⟨bo, oo + z, none⟩ = some (.int .i64 (O : Int)) ∧ True)
      ((refine offs6 (R := w.heap.size + 1 + 1) k0 k1 g0 g1 q2 y3 n3 n3 n1 n1 n2 n4 ?_ trivial; repeat (first | (with_reducible exact step.Off.refl _ _) | (with_reducible refine step.Off.drew ?_) | (with_reducible refine step.Off.setCell ?_ _ _ rfl) | (with_reducible refine step.Off.below ?_ (by assumption)))))
      (first | (go_at_call 104; (with_reducible refine (HWI.out _).mono ?_); rintro e w8 ⟨rfl, hb8⟩; have K8 := KR3.out.below (below_tr (below_dr (Below.refl _ _)) hb8); have B8 := Lib.hid (below_tr BB.out (below_tr (below_dr (Below.refl _ _)) hb8)); obtain ⟨r0, r1, r2, _⟩ := three_cells K8; have rf := fun k => Joins.unfrozen_of_block K8 k))
    go_wp2_with fail
    refine bodyPost_ret (v := .agg #[.int .i64 (J : Int), .int .i64 (K : Int), .int .i64 (O : Int)]) (by simp [results, Try.results69, go_sem, r0, r1, r2]) rfl ⟨rfl, ?_⟩
    repeat (first | (with_reducible exact B8.out) | (with_reducible refine Below.setCell ?_ (by simp <;> omega) _))



theorem player_yes (a : Int) (w : World) (h : 0 ≤ a ∧ a ≤ 2) : Calls Try.prog 68 #[.int .i64 a] w fun e w' => e = .returned (.bool true) ∧ w = w' := by
  obtain ⟨h1, h2⟩ := h
  have d1 : decide (0 ≤ a) = true := by simp [h1]
  have d2 : decide (a < 3) = true := by simp; omega
  go_enter Try.func68, Try.ntmps68
  go_wp2
  go_ret
  exact ⟨rfl, rfl⟩
theorem player_no (a : Int) (w : World) (h : ¬ (0 ≤ a ∧ a ≤ 2)) : Calls Try.prog 68 #[.int .i64 a] w fun e w' => e = .returned (.bool false) ∧ w = w' := by
  by_cases h1 : 0 ≤ a
  · have d1 : decide (0 ≤ a) = true := by simp [h1]
    have d2 : decide (a < 3) = false := by simp; omega
    clear h
    go_enter Try.func68, Try.ntmps68
    go_wp2
    go_ret
    exact ⟨rfl, rfl⟩
  · have d1 : decide (0 ≤ a) = false := by simp; omega
    clear h
    go_enter Try.func68, Try.ntmps68
    go_wp2
    go_ret
    exact ⟨rfl, rfl⟩

theorem answers (p : Nat) (hp : p < 3) (vo vj : Value) (os js : List Int) (q : Nat) (w : World) (ho : Ints w vo os) (hj : Ints w vj js) (hoo : within 2 0 1 os) (hjj : within 8 0 1 js) (hq : q < 8) :
    Calls Try.prog 69 #[.agg #[.int .i64 (p : Int), vo, vj], .agg #[.int .i64 ((q : Int) / 4 % 2), .int .i64 ((q : Int) / 2 % 2), .int .i64 ((q : Int) % 2)]] w fun e w' => e = .returned (.agg #[.int .i64 (((sg p os js q : Nat) : Int) / 4 % 2), .int .i64 (((sg p os js q : Nat) : Int) / 2 % 2), .int .i64 (((sg p os js q : Nat) : Int) % 2)]) ∧ Below w.heap.size w w' := by
  obtain rfl | rfl | rfl : p = 0 ∨ p = 1 ∨ p = 2 := by omega
  · exact answers0 vo vj os js q w ho hj hoo hjj hq
  · exact answers1 vo vj os js q w ho hj hoo hjj hq
  · exact answers2 vo vj os js q w ho hj hoo hjj hq

set_option maxHeartbeats 4000000 in
theorem closure_group (ta : Value) (p0 p1 : Nat) (wh : Int) (s : Nat → Nat) (q c : Nat) (w : World) (hq : q < 8) (hc : c < 8) (h0 : w.cell? ⟨p0, 0, none⟩ = some (.func (.func 69) #[ta] #[])) (h1 : w.cell? ⟨p1, 0, none⟩ = some (.int .i64 wh))
    (ht : ∀ (q : Nat) (W : World), q < 8 → Below w.heap.size w W → Calls Try.prog 69 #[ta, .agg #[.int .i64 ((q : Int) / 4 % 2), .int .i64 ((q : Int) / 2 % 2), .int .i64 ((q : Int) % 2)]] W fun e w' => e = .returned (.agg #[.int .i64 (((s q : Nat) : Int) / 4 % 2), .int .i64 (((s q : Nat) : Int) / 2 % 2), .int .i64 (((s q : Nat) : Int) % 2)]) ∧ Below W.heap.size W w') (hs : ∀ q, q < 8 → s q < 8) :
    Calls Try.prog 101 #[.agg #[.int .i64 ((q : Int) / 4 % 2), .int .i64 ((q : Int) / 2 % 2), .int .i64 ((q : Int) % 2)], .agg #[.int .i64 ((c : Int) / 4 % 2), .int .i64 ((c : Int) / 2 % 2), .int .i64 ((c : Int) % 2)], .pointer (some ⟨p0, 0, none⟩), .pointer (some ⟨p1, 0, none⟩)] w fun e w' => e = .returned (.int .i64 (if c = s q then wh else 0)) ∧ Below w.heap.size w w' := by
  have HP := Lib.hid (fun W (hW : Below w.heap.size w W) => ht q W hq hW)
  have HS := hs q hq
  obtain ⟨W0, hW0⟩ : ∃ W, W = (w.alloc (.cells #[.int .i64 ((q : Int) / 4 % 2), .int .i64 ((q : Int) / 2 % 2), .int .i64 ((q : Int) % 2)] 76)).alloc (.cells #[.int .i64 ((c : Int) / 4 % 2), .int .i64 ((c : Int) / 2 % 2), .int .i64 ((c : Int) % 2)] 76) := ⟨_, rfl⟩
  have Kq : Hid (Blk W0 w.heap.size 76 #[.int .i64 ((q : Int) / 4 % 2), .int .i64 ((q : Int) / 2 % 2), .int .i64 ((q : Int) % 2)]) := Lib.hid (by rw [hW0]; exact (Blk.new _ _ _).alloc _)
  have Kk : Hid (Blk W0 (w.heap.size + 1) 76 #[.int .i64 ((c : Int) / 4 % 2), .int .i64 ((c : Int) / 2 % 2), .int .i64 ((c : Int) % 2)]) := Lib.hid (by
    rw [hW0]
    have := Blk.new (w.alloc (.cells #[.int .i64 ((q : Int) / 4 % 2), .int .i64 ((q : Int) / 2 % 2), .int .i64 ((q : Int) % 2)] 76)) 76 #[.int .i64 ((c : Int) / 4 % 2), .int .i64 ((c : Int) / 2 % 2), .int .i64 ((c : Int) % 2)]
    simpa using this)
  have B0 : Hid (Below w.heap.size w W0) := Lib.hid (by rw [hW0]; exact below_al (below_al (Below.refl _ _) _) _)
  have HX := Lib.hid (And.intro (below_cell B0.out _ _ h0) (below_cell B0.out _ _ h1))
  clear h0 h1 ht hs
  by_cases he : c = s q
  all_goals
    first
      | have de : (((s q : Nat) : Int) / 4 % 2 == (c : Int) / 4 % 2 && ((s q : Nat) : Int) / 2 % 2 == (c : Int) / 2 % 2 && ((s q : Nat) : Int) % 2 == (c : Int) % 2) = true := by rw [he]; simp
        rw [if_pos he]
      | have de : (((s q : Nat) : Int) / 4 % 2 == (c : Int) / 4 % 2 && ((s q : Nat) : Int) / 2 % 2 == (c : Int) / 2 % 2 && ((s q : Nat) : Int) % 2 == (c : Int) % 2) = false := by
          apply Bool.eq_false_iff.2
          intro h
          simp only [Bool.and_eq_true, beq_iff_eq] at h
          omega
        rw [if_neg he]
    generalize s q = sq at *
    clear he
    go_enter Try.func101, Try.ntmps101
    go_wp2_with fail
    rw [← hW0]
    clear hW0
    obtain ⟨q0, q1, q2, _⟩ := three_cells Kq.out
    obtain ⟨k0, k1, k2, _⟩ := three_cells Kk.out
    obtain ⟨x0, x1⟩ := HX.out
    go_region_held3 (fun w' => w'.cell? ⟨w.heap.size, 0, none⟩ = some (.int .i64 ((q : Int) / 4 % 2)) ∧ w'.cell? ⟨w.heap.size, 1, none⟩ = some (.int .i64 ((q : Int) / 2 % 2)) ∧ w'.cell? ⟨w.heap.size, 2, none⟩ = some (.int .i64 ((q : Int) % 2)) ∧ w'.cell? ⟨w.heap.size + 1, 0, none⟩ = some (.int .i64 ((c : Int) / 4 % 2)) ∧ w'.cell? ⟨w.heap.size + 1, 1, none⟩ = some (.int .i64 ((c : Int) / 2 % 2)) ∧ w'.cell? ⟨w.heap.size + 1, 2, none⟩ = some (.int .i64 ((c : Int) % 2)) ∧ w'.cell? ⟨p0, 0, none⟩ = some (.func (.func 69) #[ta] #[]) ∧ Below W0.heap.size W0 w')
      ((refine hld.held7 rfl q0 q1 q2 k0 k1 k2 x0 ?_; repeat (first | (with_reducible exact Below.refl _ _) | (with_reducible refine below_dr ?_) | (with_reducible refine below_tr ?_ (by assumption)))))
      (first | (go_at_call 69; (with_reducible refine (HP.out _ (below_tr B0.out (by repeat (first | (with_reducible exact Below.refl _ _) | (with_reducible refine below_dr ?_) | (with_reducible refine below_tr ?_ (by assumption)))))).mono ?_); rintro e w1 ⟨rfl, hb1⟩))
    have E1 := below_tr (below_dr (Below.refl W0.heap.size W0)) hb1
    have x2 := below_cell E1 _ _ x1
    go_wp2_with fail
    go_ret
    exact ⟨rfl, below_tr B0.out E1⟩

set_option maxHeartbeats 8000000 in
theorem makes_group  (p0 p1 : Nat) (wh : Int) (N : Nat → Nat → Int) (w : World)
    (hnum : ∀ (q c : Nat) (W : World), q < 8 → c < 8 → Below w.heap.size w W → Calls Try.prog 101 #[.agg #[.int .i64 ((q : Int) / 4 % 2), .int .i64 ((q : Int) / 2 % 2), .int .i64 ((q : Int) % 2)], .agg #[.int .i64 ((c : Int) / 4 % 2), .int .i64 ((c : Int) / 2 % 2), .int .i64 ((c : Int) % 2)], .pointer (some ⟨p0, 0, none⟩), .pointer (some ⟨p1, 0, none⟩)] W fun e w' => e = .returned (.int .i64 (N q c)) ∧ Below W.heap.size W w') :
    Calls Try.prog 71 #[.int .i64 wh, .func (.func 101) #[] #[.pointer (some ⟨p0, 0, none⟩), .pointer (some ⟨p1, 0, none⟩)]] w fun e w' => ∃ u, e = .returned (.agg #[.int .i64 wh, u]) ∧ OwnRows w' w.heap.size w'.heap.size u (rows8 N) ∧ Below w.heap.size w w' := by
  have hmk : ∀ W : World, (Instr.makeSlice 33 (.int .i64 8) (.int .i64 8)).run Try.prog W = .ok (.slice (some ⟨W.heap.size, 0, none⟩) 8 8) (W.alloc (.cells (madeCells #[.int .i64 0] 8) 3)) := fun W => by kernel_rfl
  have hmr : ∀ W : World, (Instr.makeSlice 22 (.int .i64 8) (.int .i64 8)).run Try.prog W = .ok (.slice (some ⟨W.heap.size, 0, none⟩) 8 8) (W.alloc (.cells (madeCells #[.slice none 0 0] 8) 33)) := fun W => by kernel_rfl
  have HN := Lib.hid hnum
  clear hnum
  obtain ⟨W0, hW0⟩ : ∃ W, W = (w.alloc (.cells #[.int .i64 0, .slice none 0 0] 27)).alloc (.cells (madeCells #[.slice none 0 0] 8) 33) := ⟨_, rfl⟩
  have K0 : Hid (Blk W0 w.heap.size 27 #[.int .i64 0, .slice none 0 0]) := Lib.hid (by rw [hW0]; exact (Blk.new _ _ _).alloc _)
  have G0 : Hid (Grd w W0 (w.heap.size + 1) (up 0) (fun _ => 0) (Fq N 0 0)) := Lib.hid (by
    have hr : W0.rowIs (w.heap.size + 1) 33 8 (fun _ => .slice none 0 0) := by
      rw [hW0]
      have := World.rowIs_made (w.alloc (.cells #[.int .i64 0, .slice none 0 0] 27)) (.slice none 0 0) 8 33
      simpa using this
    refine ⟨by rw [hW0]; exact below_al (below_al (Below.refl _ _) _) _, by omega, hr.congr (fun i _ => by simp [outer, up]), fun i _ ho => by simp [up] at ho, fun i _ ho => by simp [up] at ho, fun i j _ _ ho => by simp [up] at ho⟩)
  go_enter Try.func71, Try.ntmps71
  go_wp2_with fail
  rw [← hW0]
  clear hW0 hmr
  go_loopw [11] (fun s wr => ∃ q : Nat, q ≤ 8 ∧ s = .int .i64 q ∧ ∃ gs, Hid (Grd w wr (w.heap.size + 1) (up q) gs (Fq N q 0)) ∧ Hid (Blk wr w.heap.size 27 #[.int .i64 0, .slice none 0 0])) (fun s _ => 8 - (intOf s).toNat)
  case atStart => exact ⟨0, by omega, rfl, _, G0, K0⟩
  case round =>
    obtain ⟨q, hq, rfl, gs, hG, hK⟩ := hrel
    clear G0 K0
    obtain ⟨wo, rfl⟩ : ∃ wo : World, wo = wr := ⟨_, rfl⟩
    by_cases hlt : q < 8
    · have hqz : (q : Int) < 8 := by omega
      have al := below_al (Below.refl wo.heap.size wo) (.cells (madeCells #[.int .i64 0] 8) 3)
      have G1 := hG.out.keep al
      have c1 := G1.out.cell hlt
      have f1 := G1.out.frozen q
      have eo : outer (up q) gs q = .slice none 0 0 := by simp [outer, up]
      rw [eo] at c1
      have G2 : Hid (Grd w ((wo.alloc (.cells (madeCells #[.int .i64 0] 8) 3)).setCell ⟨w.heap.size + 1, q, none⟩ (.slice (some ⟨wo.heap.size, 0, none⟩) 8 8)) (w.heap.size + 1) (up (q + 1)) (fun i => if i = q then wo.heap.size else gs i) (Fq N q 0)) := Lib.hid (by
        rw [← upd_up q]
        refine G1.put hlt (by simp [up]) ((World.rowIs_made wo (.int .i64 0) 8 3).congr (fun j _ => by simp only [Fq_zero])) hG.out.out.lt (fun i hi ho => ?_) (fun _ _ _ _ _ => rfl)
        have := (hG.out.row i hi ho).lt
        show gs i ≠ wo.heap.size
        omega)
      have K2 : Hid (Blk ((wo.alloc (.cells (madeCells #[.int .i64 0] 8) 3)).setCell ⟨w.heap.size + 1, q, none⟩ (.slice (some ⟨wo.heap.size, 0, none⟩) 8 8)) w.heap.size 27 #[.int .i64 0, .slice none 0 0]) := Lib.hid ((hK.out.alloc _).belowB (B := w.heap.size + 1) (Below.setCell (Below.refl _ _) (show w.heap.size + 1 ≤ (⟨w.heap.size + 1, q, none⟩ : Addr).block from Nat.le_refl _) _) (by omega))
      have c2 := G2.out.out.cell hlt
      have eo2 : outer (up (q + 1)) (fun i => if i = q then wo.heap.size else gs i) q = .slice (some ⟨wo.heap.size, 0, none⟩) 8 8 := by simp [outer, up]
      rw [eo2] at c2
      clear eo eo2 al G1 hG hK
      go_wp2_with fail
      generalize (wo.alloc (.cells (madeCells #[.int .i64 0] 8) 3)).setCell ⟨w.heap.size + 1, q, none⟩ (.slice (some ⟨wo.heap.size, 0, none⟩) 8 8) = W2 at *
      obtain ⟨gt, hgt⟩ : ∃ gt : Nat → Nat, gt = fun i => if i = q then wo.heap.size else gs i := ⟨_, rfl⟩
      have hgq : wo.heap.size = gt q := by rw [hgt]; simp
      rw [← hgt] at G2
      rw [hgq]
      rw [hgq] at c2
      clear c1 f1 hgt hgq
      go_loopw [23] (fun s wr => ∃ c : Nat, c ≤ 8 ∧ s = .int .i64 c ∧ Hid (Grd w wr (w.heap.size + 1) (up (q + 1)) gt (Fq N q c)) ∧ Hid (Blk wr w.heap.size 27 #[.int .i64 0, .slice none 0 0])) (fun s _ => 8 - (intOf s).toNat)
      case atStart => exact ⟨0, by omega, rfl, G2, K2⟩
      case round =>
        obtain ⟨c, hc, rfl, hG, hK⟩ := hrel
        clear G2 K2 c2
        obtain ⟨wj, rfl⟩ : ∃ wo : World, wo = wr := ⟨_, rfl⟩
        by_cases hlc : c < 8
        · have hcz : (c : Int) < 8 := by omega
          have hon : up (q + 1) q = true := by simp [up]
          have x1 := hG.out.out.cell hlt
          have eo : outer (up (q + 1)) gt q = .slice (some ⟨gt q, 0, none⟩) 8 8 := by simp [outer, hon]
          rw [eo] at x1
          have x2 := (hG.out.row q hlt hon).cell hlc
          have ez : Fq N q c q c = 0 := by simp [Fq]
          simp only [ez] at x2
          have f2 := (hG.out.row q hlt hon).frozen c
          have HA := Lib.hid (fun W => at3z q hlt W)
          have HB := Lib.hid (fun W => at3z c hlc W)
          have HC := Lib.hid (fun (W : World) (hW : Below wj.heap.size wj W) => HN.out q c W hlt hlc (below_tr hG.out.below hW))
          clear eo ez
          go_wp2_with fail
          refine last.start (S := fun w' => w'.cell? ⟨w.heap.size + 1, q, none⟩ = some (.slice (some ⟨gt q, 0, none⟩) 8 8) ∧ w'.cell? ⟨gt q, c, none⟩ = some (.int .i64 0) ∧ w'.frozen? ⟨gt q, c, none⟩ = false ∧ Below wj.heap.size wj w') (L := 12) (by kernel_rfl) ?_
          have hHeld := held2f rfl x1 x2 f2 (below_dr (Below.refl _ _))
          refine last.take (i := 0) (oi := { dst := some 26, op := Op.move (Operand.tmp 5), type := 22, pos := "l11_three.go:122", after := #[], guard := none }) (v := ?v0) rfl (by kernel_rfl) (by kernel_rfl) (by kernel_rfl) (by kernel_rfl) (by decide) (fun _ _ _ h => h) (Or.inl ⟨by rfl, ?y0⟩) hHeld ?r0
          case y0 => (intro w hSw; (try dsimp only at hSw); go_simp; try with_reducible rfl)
          try simp only [Act.put, List.setIfInBounds_toArray, List.set_cons_zero, List.set_cons_succ]
          refine last.take (i := 1) (oi := { dst := some 27, op := Op.move (Operand.tmp 6), type := 3, pos := "l11_three.go:122", after := #[], guard := none }) (v := ?v1) rfl (by kernel_rfl) (by kernel_rfl) (by kernel_rfl) (by kernel_rfl) (by decide) (fun _ _ _ h => h) (Or.inl ⟨by rfl, ?y1⟩) hHeld ?r1
          case y1 => (intro w hSw; (try dsimp only at hSw); go_simp; try with_reducible rfl)
          try simp only [Act.put, List.setIfInBounds_toArray, List.set_cons_zero, List.set_cons_succ]
          refine last.take (i := 2) (oi := { dst := some 28, op := Op.indexAddr 22 (Operand.tmp 26) (Operand.tmp 27), type := 0, pos := "l11_three.go:122", after := #[{ on := 0, ground := Ground.data }, { on := 1, ground := Ground.data }], guard := none }) (v := ?v2) rfl (by kernel_rfl) (by kernel_rfl) (by kernel_rfl) (by kernel_rfl) (by decide) (fun _ _ _ h => h) (Or.inl ⟨by rfl, ?y2⟩) hHeld ?r2
          case y2 => (intro w hSw; (try dsimp only at hSw); go_simp; try with_reducible rfl)
          try simp only [Act.put, List.setIfInBounds_toArray, List.set_cons_zero, List.set_cons_succ]
          refine last.take (i := 3) (oi := { dst := some 29, op := Op.load 33 (Operand.tmp 28), type := 33, pos := "l11_three.go:122", after := #[{ on := 2, ground := Ground.data }], guard := none }) (v := ?v3) rfl (by kernel_rfl) (by kernel_rfl) (by kernel_rfl) (by kernel_rfl) (by decide) (fun _ _ _ h => h) (Or.inl ⟨by rfl, ?y3⟩) hHeld ?r3
          case y3 => (intro w hSw; (try dsimp only at hSw); go_simp; try with_reducible rfl)
          try simp only [Act.put, List.setIfInBounds_toArray, List.set_cons_zero, List.set_cons_succ]
          refine last.take (i := 4) (oi := { dst := some 30, op := Op.move (Operand.tmp 7), type := 3, pos := "l11_three.go:122", after := #[], guard := none }) (v := ?v4) rfl (by kernel_rfl) (by kernel_rfl) (by kernel_rfl) (by kernel_rfl) (by decide) (fun _ _ _ h => h) (Or.inl ⟨by rfl, ?y4⟩) hHeld ?r4
          case y4 => (intro w hSw; (try dsimp only at hSw); go_simp; try with_reducible rfl)
          try simp only [Act.put, List.setIfInBounds_toArray, List.set_cons_zero, List.set_cons_succ]
          refine last.take (i := 5) (oi := { dst := some 31, op := Op.move (Operand.tmp 1), type := 78, pos := "l11_three.go:122", after := #[], guard := none }) (v := ?v5) rfl (by kernel_rfl) (by kernel_rfl) (by kernel_rfl) (by kernel_rfl) (by decide) (fun _ _ _ h => h) (Or.inl ⟨by rfl, ?y5⟩) hHeld ?r5
          case y5 => (intro w hSw; (try dsimp only at hSw); go_simp; try with_reducible rfl)
          try simp only [Act.put, List.setIfInBounds_toArray, List.set_cons_zero, List.set_cons_succ]
          refine last.take (i := 6) (oi := { dst := some 32, op := Op.move (Operand.tmp 6), type := 3, pos := "l11_three.go:122", after := #[], guard := none }) (v := ?v6) rfl (by kernel_rfl) (by kernel_rfl) (by kernel_rfl) (by kernel_rfl) (by decide) (fun _ _ _ h => h) (Or.inl ⟨by rfl, ?y6⟩) hHeld ?r6
          case y6 => (intro w hSw; (try dsimp only at hSw); go_simp; try with_reducible rfl)
          try simp only [Act.put, List.setIfInBounds_toArray, List.set_cons_zero, List.set_cons_succ]
          refine last.take (i := 8) (oi := { dst := some 34, op := Op.move (Operand.tmp 7), type := 3, pos := "l11_three.go:122", after := #[], guard := none }) (v := ?v8) rfl (by kernel_rfl) (by kernel_rfl) (by kernel_rfl) (by kernel_rfl) (by decide) (fun _ _ _ h => h) (Or.inl ⟨by rfl, ?y8⟩) hHeld ?r8
          case y8 => (intro w hSw; (try dsimp only at hSw); go_simp; try with_reducible rfl)
          try simp only [Act.put, List.setIfInBounds_toArray, List.set_cons_zero, List.set_cons_succ]
          refine last.one (i := 7) (o := { dst := some 33, op := Op.call { callee := Callee.value (Operand.func 80), args := #[Operand.tmp 32], argTypes := #[3] }, type := 76, pos := "l11_three.go:122", after := #[{ on := 6, ground := Ground.data }], guard := none }) (by kernel_rfl) rfl (fun K hK => ?_)
          go_simp
          (go_at_call 80; (with_reducible refine (HA.out _).mono ?_); rintro e y0 ⟨rfl, hy0⟩)
          refine hK.out _ _ ?s7 (fun hHeld => ?_)
          case s7 => (try dsimp only); (refine held2f rfl x1 x2 f2 ?_; repeat (first | (with_reducible exact Below.refl _ _) | (with_reducible refine below_dr ?_) | (with_reducible refine below_tr ?_ (by assumption))))
          clear hK K
          try simp only [Act.put, List.setIfInBounds_toArray, List.set_cons_zero, List.set_cons_succ]
          refine last.one (i := 9) (o := { dst := some 35, op := Op.call { callee := Callee.value (Operand.func 80), args := #[Operand.tmp 34], argTypes := #[3] }, type := 76, pos := "l11_three.go:122", after := #[{ on := 8, ground := Ground.data }, { on := 7, ground := Ground.chain }], guard := none }) (by kernel_rfl) rfl (fun K hK => ?_)
          go_simp
          (go_at_call 80; (with_reducible refine (HB.out _).mono ?_); rintro e y1 ⟨rfl, hy1⟩)
          refine hK.out _ _ ?s9 (fun hHeld => ?_)
          case s9 => (try dsimp only); (refine held2f rfl x1 x2 f2 ?_; repeat (first | (with_reducible exact Below.refl _ _) | (with_reducible refine below_dr ?_) | (with_reducible refine below_tr ?_ (by assumption))))
          clear hK K
          try simp only [Act.put, List.setIfInBounds_toArray, List.set_cons_zero, List.set_cons_succ]
          refine last.one (i := 10) (o := { dst := some 36, op := Op.call { callee := Callee.value (Operand.tmp 31), args := #[Operand.tmp 33, Operand.tmp 35], argTypes := #[76, 76] }, type := 3, pos := "l11_three.go:122", after := #[{ on := 5, ground := Ground.data }, { on := 7, ground := Ground.data }, { on := 9, ground := Ground.data }, { on := 9, ground := Ground.chain }], guard := none }) (by kernel_rfl) rfl (fun K hK => ?_)
          go_simp
          (go_at_call 101; (with_reducible refine (HC.out _ (by repeat (first | (with_reducible exact Below.refl _ _) | (with_reducible refine below_dr ?_) | (with_reducible refine below_tr ?_ (by assumption))))).mono ?_); rintro e y2 ⟨rfl, hy2⟩)
          refine hK.out _ _ ?s10 (fun hHeld => ?_)
          case s10 => (try dsimp only); (refine held2f rfl x1 x2 f2 ?_; repeat (first | (with_reducible exact Below.refl _ _) | (with_reducible refine below_dr ?_) | (with_reducible refine below_tr ?_ (by assumption))))
          clear hK K
          try simp only [Act.put, List.setIfInBounds_toArray, List.set_cons_zero, List.set_cons_succ]
          refine last.take (i := 11) (oi := { dst := some 37, op := Op.indexAddr 33 (Operand.tmp 29) (Operand.tmp 30), type := 0, pos := "l11_three.go:122", after := #[{ on := 3, ground := Ground.data }, { on := 4, ground := Ground.data }, { on := 0, ground := Ground.phase }, { on := 1, ground := Ground.phase }, { on := 2, ground := Ground.phase }, { on := 3, ground := Ground.phase }, { on := 4, ground := Ground.phase }, { on := 5, ground := Ground.phase }, { on := 6, ground := Ground.phase }, { on := 7, ground := Ground.phase }, { on := 8, ground := Ground.phase }, { on := 9, ground := Ground.phase }, { on := 10, ground := Ground.phase }], guard := none }) (v := ?v11) rfl (by kernel_rfl) (by kernel_rfl) (by kernel_rfl) (by kernel_rfl) (by decide) (fun _ _ _ h => h) (Or.inl ⟨by rfl, ?y11⟩) hHeld ?r11
          case y11 => (intro w hSw; (try dsimp only at hSw); go_simp; try with_reducible rfl)
          try simp only [Act.put, List.setIfInBounds_toArray, List.set_cons_zero, List.set_cons_succ]
          have E9 : Below wj.heap.size wj y2 := below_tr (below_tr (below_tr (below_dr (Below.refl _ _)) hy0) hy1) hy2
          have G9 := Lib.hid (hG.out.keep E9)
          have K9 := Lib.hid (hK.out.below E9)
          obtain ⟨_, q9, f9, _⟩ := hHeld
          have G10 := Lib.hid (G9.out.store hlt hon (N q c) (F' := Fq N q (c + 1)) (fun i j _ _ _ => Fq_step N q c i j))
          have K10 : Hid (Blk (y2.setCell ⟨gt q, c, none⟩ (.int .i64 (N q c))) w.heap.size 27 #[.int .i64 0, .slice none 0 0]) := Lib.hid (K9.out.belowB (B := w.heap.size + 1) (Below.setCell (Below.refl _ _) (show w.heap.size + 1 ≤ (⟨gt q, c, none⟩ : Addr).block from Nat.le_of_lt (G9.out.ge q hlt hon)) _) (by omega))
          clear x1 x2 f2 hy0 hy1 hy2 E9 G9 K9 hG hK HA HB HC
          refine last.final (o := { dst := none, op := Op.store 3 (Operand.tmp 37) (Operand.tmp 36), type := 0, pos := "l11_three.go:122", after := #[{ on := 11, ground := Ground.data }, { on := 10, ground := Ground.data }, { on := 10, ground := Ground.chain }, { on := 0, ground := Ground.phase }, { on := 1, ground := Ground.phase }, { on := 2, ground := Ground.phase }, { on := 3, ground := Ground.phase }, { on := 4, ground := Ground.phase }, { on := 5, ground := Ground.phase }, { on := 6, ground := Ground.phase }, { on := 7, ground := Ground.phase }, { on := 8, ground := Ground.phase }, { on := 9, ground := Ground.phase }, { on := 10, ground := Ground.phase }], guard := none }) (by kernel_rfl) rfl (fun K hK => ?_)
          go_simp
          refine hK.out _ _ ?_
          clear hK K
          try simp only [Act.put, List.setIfInBounds_toArray, List.set_cons_zero, List.set_cons_succ]
          refine last.done (by kernel_rfl) ?_ _
          generalize y2.setCell ⟨gt q, c, none⟩ (.int .i64 (N q c)) = w5 at *
          go_wp2_with fail
          go_roundw
          case rel => exact ⟨c + 1, by omega, by go_num, G10, K10⟩
          case measure => simp [intOf]; omega
        · have hcz : ¬ (c : Int) < 8 := by omega
          obtain rfl : c = 8 := by omega
          go_wp2_with fail
          go_roundw
          case rel => exact ⟨q + 1, by omega, by go_num, gt, Lib.hid (hG.out.congr (fun i j _ hj ho => Fq_next N q i j hj (by simpa [up] using ho))), hK⟩
          case measure => simp [intOf]; omega
    · have hqz : ¬ (q : Int) < 8 := by omega
      obtain rfl : q = 8 := by omega
      have HO := Lib.hid (hG.out.done (fun i hi => by simpa [up] using hi))
      rw [rows8_congr (fun i j hi _ => Fq_all N i j hi)] at HO
      have HB := Lib.hid hG.out.below
      obtain ⟨r0, r1, rl⟩ := two_cells hK.out
      have rf : ∀ k, wo.frozen? ⟨w.heap.size, k, none⟩ = false := fun k => Joins.unfrozen_of_block hK.out k
      clear hG
      go_wp2_with fail
      refine bodyPost_ret (v := .agg #[.int .i64 wh, .slice (some ⟨w.heap.size + 1, 0, none⟩) 8 8]) (by simp [results, Try.results71, go_sem, r0, r1]) rfl ⟨_, rfl, ?_, ?_⟩
      · have hw : Wrote (fun p => p.block = w.heap.size) wo ((wo.setCell ⟨w.heap.size, 0, none⟩ (.int .i64 wh)).setCell ⟨w.heap.size, 1, none⟩ (.slice (some ⟨w.heap.size + 1, 0, none⟩) 8 8)) := Wrote.setCell (S := fun p => p.block = w.heap.size) (Wrote.setCell (S := fun p => p.block = w.heap.size) (Wrote.refl _ _) rfl _) rfl _
        exact (HO.out.wrote hw (fun p hp => .inl (by have e : p.block = w.heap.size := hp; omega))).mono (by omega) (by simp [World.setCell])
      · exact Below.setCell (Below.setCell HB.out (Nat.le_refl _) _) (Nat.le_refl _) _

set_option maxHeartbeats 4000000 in
theorem told_group (ta : Value) (wh : Int) (s : Nat → Nat) (w : World) (ht : ∀ (q : Nat) (W : World), q < 8 → Below w.heap.size w W → Calls Try.prog 69 #[ta, .agg #[.int .i64 ((q : Int) / 4 % 2), .int .i64 ((q : Int) / 2 % 2), .int .i64 ((q : Int) % 2)]] W fun e w' => e = .returned (.agg #[.int .i64 (((s q : Nat) : Int) / 4 % 2), .int .i64 (((s q : Nat) : Int) / 2 % 2), .int .i64 (((s q : Nat) : Int) % 2)]) ∧ Below W.heap.size W w') (hs : ∀ q, q < 8 → s q < 8) :
    Calls Try.prog 63 #[.int .i64 wh, .func (.func 69) #[ta] #[]] w fun e w' => ∃ u, e = .returned (.agg #[.int .i64 wh, u]) ∧ OwnRows w' w.heap.size w'.heap.size u (rows8 (ND s wh)) ∧ Below w.heap.size w w' := by
  obtain ⟨W0, hW0⟩ : ∃ W, W = ((w.alloc (.cells #[.int .i64 wh] 3)).alloc (.cells #[.func (.func 69) #[ta] #[]] 68)).alloc (.cells #[.int .i64 0, .slice none 0 0] 27) := ⟨_, rfl⟩
  have K0 : Hid (Blk W0 w.heap.size 3 #[.int .i64 wh]) := Lib.hid (by rw [hW0]; exact ((Blk.new _ _ _).alloc _).alloc _)
  have K1 : Hid (Blk W0 (w.heap.size + 1) 68 #[.func (.func 69) #[ta] #[]]) := Lib.hid (by
    rw [hW0]
    have := (Blk.new (w.alloc (.cells #[.int .i64 wh] 3)) 68 #[.func (.func 69) #[ta] #[]]).alloc (.cells #[.int .i64 0, .slice none 0 0] 27)
    simpa using this)
  have K2 : Hid (Blk W0 (w.heap.size + 1 + 1) 27 #[.int .i64 0, .slice none 0 0]) := Lib.hid (by
    rw [hW0]
    have := Blk.new ((w.alloc (.cells #[.int .i64 wh] 3)).alloc (.cells #[.func (.func 69) #[ta] #[]] 68)) 27 #[.int .i64 0, .slice none 0 0]
    simpa using this)
  have B0 : Hid (Below w.heap.size w W0) := Lib.hid (by rw [hW0]; exact below_al (below_al (below_al (Below.refl _ _) _) _) _)
  have c0 : W0.cell? ⟨w.heap.size, 0, none⟩ = some (.int .i64 wh) := by have := Joins.cell_of_block K0.out 0; rw [this]; rfl
  have c1 : W0.cell? ⟨w.heap.size + 1, 0, none⟩ = some (.func (.func 69) #[ta] #[]) := by have := Joins.cell_of_block K1.out 0; rw [this]; rfl
  have HM := Lib.hid (makes_group (w.heap.size + 1) w.heap.size wh (ND s wh) W0 (fun q c W hq hc hW => closure_group ta (w.heap.size + 1) w.heap.size wh s q c W hq hc (below_cell hW _ _ c1) (below_cell hW _ _ c0) (fun q W' hq hW' => ht q W' hq (below_tr B0.out (below_tr hW hW'))) hs))
  clear ht hs c1
  rw [hW0] at c0
  go_enter Try.func63, Try.ntmps63
  go_wp2_with fail
  rw [← hW0]
  clear hW0 c0
  refine HM.out.mono ?_
  rintro e w1 ⟨u, rfl, hu, hb⟩
  obtain ⟨ua, un, uc, rfl⟩ := hu.rows.shape
  have R1 := Lib.hid (K2.out.below hb)
  have U1 := Lib.hid hu
  have B1 := Lib.hid (below_tr B0.out hb)
  have Z1 : Hid (w.heap.size + 1 + 1 < W0.heap.size) := Lib.hid K2.out.lt
  obtain ⟨r0, r1, rl⟩ := two_cells R1.out
  have rf : ∀ k, w1.frozen? ⟨w.heap.size + 1 + 1, k, none⟩ = false := fun k => Joins.unfrozen_of_block R1.out k
  clear hu hb HM
  go_wp2_with fail
  refine bodyPost_ret (v := .agg #[.int .i64 wh, .slice ua un uc]) (by simp [results, Try.results63, go_sem, r0, r1]) rfl ⟨_, rfl, ?_, ?_⟩
  · have hw : Wrote (fun p => p.block = w.heap.size + 1 + 1) w1 ((w1.setCell ⟨w.heap.size + 1 + 1, 0, none⟩ (.int .i64 wh)).setCell ⟨w.heap.size + 1 + 1, 1, none⟩ (.slice ua un uc)) := Wrote.setCell (S := fun p => p.block = w.heap.size + 1 + 1) (Wrote.setCell (S := fun p => p.block = w.heap.size + 1 + 1) (Wrote.refl _ _) rfl _) rfl _
    exact (U1.out.wrote hw (fun p hp => .inl (by have e : p.block = w.heap.size + 1 + 1 := hp; have := Z1.out; omega))).mono (by have := Z1.out; omega) (by simp [World.setCell])
  · exact Below.setCell (Below.setCell B1.out (show w.heap.size ≤ w.heap.size + 1 + 1 by omega) _) (show w.heap.size ≤ w.heap.size + 1 + 1 by omega) _

set_option maxHeartbeats 4000000 in
theorem impl_any (al : Int) (vo vj : Value) (os js : List Int) (wh : Int) (w : World) (ho : Ints w vo os) (hj : Ints w vj js) :
    Calls Try.prog 30 #[.int .i64 al, vo, vj, .int .i64 wh] w fun e w' => ∃ u, e = .returned (.tuple #[.agg #[.int .i64 (resG al os js wh).wh, u], .bool (resG al os js wh).ok]) ∧ OwnRows w' w.heap.size w'.heap.size u (resG al os js wh).rows ∧ Below w.heap.size w w' := by
  obtain ⟨oa, on, oc, rfl⟩ := ho.shape
  obtain ⟨ja, jn, jc, rfl⟩ := hj.shape
  obtain ⟨W0, hW0⟩ : ∃ W, W = w.alloc (.cells #[.int .i64 0, .slice none 0 0] 27) := ⟨_, rfl⟩
  have Kr : Hid (Blk W0 w.heap.size 27 #[.int .i64 0, .slice none 0 0]) := Lib.hid (by rw [hW0]; exact Blk.new _ _ _)
  have B0 : Hid (Below w.heap.size w W0) := Lib.hid (by rw [hW0]; exact below_al (Below.refl _ _) _)
  have HIO := Lib.hid (ho.below B0.out)
  have HIJ := Lib.hid (hj.below B0.out)
  have HBO := Lib.hid (play.impl_bits _ os 2 W0 HIO.out)
  have HBJ := Lib.hid (play.impl_bits _ js 8 W0 HIJ.out)
  obtain ⟨r0, r1, rl⟩ := two_cells Kr.out
  have rf : ∀ k, W0.frozen? ⟨w.heap.size, k, none⟩ = false := fun k => Joins.unfrozen_of_block Kr.out k
  clear ho hj
  by_cases ha : 0 ≤ al ∧ al ≤ 2
  · obtain ⟨p, rfl⟩ : ∃ p : Nat, al = p := ⟨al.toNat, by omega⟩
    have hp : p < 3 := by omega
    have HPY := Lib.hid (fun W => player_yes (p : Int) W ha)
    have HA := Lib.hid ha
    clear ha
    by_cases hoo : within 2 0 1 os
    · have HBO := Lib.hid (by have h := HBO.out; rw [withinB_yes hoo] at h; exact h)
      by_cases hjj : within 8 0 1 js
      · have HBJ := Lib.hid (by have h := HBJ.out; rw [withinB_yes hjj] at h; exact h)
        have HM := Lib.hid (told_group (.agg #[.int .i64 (p : Int), .slice oa on oc, .slice ja jn jc]) wh (sg p os js) W0 (fun q W hq hW => answers p hp _ _ os js q W (HIO.out.below hW) (HIJ.out.below hW) hoo hjj hq) (fun q hq => sg_lt hoo hjj q))
        have HOT := Lib.hid (ok_told (s := sg p os js) (wh := wh) (fun q hq => sg_lt hoo hjj q))
        have HY := Lib.hid (fun (h : 1 ≤ wh ∧ wh ≤ 1000) => resG_yes ⟨HA.out, hoo, hjj, h⟩)
        clear hoo hjj hp
        go_enter Try.func30, Try.ntmps30
        go_wp2_with fail
        rw [← hW0]
        clear hW0
        refine (HPY.out _).mono ?_
        rintro e w' ⟨rfl, rfl⟩
        go_wp2_with fail
        refine HBO.out.mono ?_
        rintro e w' ⟨rfl, rfl⟩
        go_wp2_with fail
        refine HBJ.out.mono ?_
        rintro e w' ⟨rfl, rfl⟩
        clear r0 r1 rl rf
        go_wp2_with fail
        refine HM.out.mono ?_
        rintro e w1 ⟨u, rfl, hu, hb⟩
        obtain ⟨ua, un, uc, rfl⟩ := hu.rows.shape
        by_cases hw : 1 ≤ wh ∧ wh ≤ 1000
        · have HV := Lib.hid (tvk.valid_yes wh _ _ w1 hu.rows (tot_rows8 _) (HOT.out.2 hw))
          have HR := Lib.hid (HY.out hw)
          have U1 := Lib.hid hu
          have B1 := Lib.hid hb
          clear hu hb HM hw HY
          go_wp2_with fail
          refine HV.out.mono ?_
          rintro e w2 ⟨rfl, hb2⟩
          have K1 := Lib.hid (Kr.out.below (below_tr B1.out hb2))
          have U2 := Lib.hid (U1.out.keep hb2)
          have B2 := Lib.hid (below_tr B0.out (below_tr B1.out hb2))
          have Z1 : Hid (w.heap.size < W0.heap.size ∧ w1.heap.size ≤ w2.heap.size) := Lib.hid ⟨Kr.out.lt, hb2.size⟩
          obtain ⟨r0, r1, rl⟩ := two_cells K1.out
          have rf : ∀ k, w2.frozen? ⟨w.heap.size, k, none⟩ = false := fun k => Joins.unfrozen_of_block K1.out k
          clear hb2 HV U1
          go_wp2_with fail
          refine bodyPost_ret (v := .tuple #[.agg #[.int .i64 wh, .slice ua un uc], .bool true]) (by simp [results, Try.results30, go_sem, r0, r1]) rfl ?_
          rw [HR.out]
          refine ⟨_, rfl, ?_, ?_⟩
          · have hw : Wrote (fun p => p.block = w.heap.size) w2 ((w2.setCell ⟨w.heap.size, 0, none⟩ (.int .i64 wh)).setCell ⟨w.heap.size, 1, none⟩ (.slice ua un uc)) := Wrote.setCell (S := fun p => p.block = w.heap.size) (Wrote.setCell (S := fun p => p.block = w.heap.size) (Wrote.refl _ _) rfl _) rfl _
            exact (U2.out.wrote hw (fun p hp => .inl (by have e : p.block = w.heap.size := hp; have := Z1.out.1; omega))).mono (by have := Z1.out.1; omega) (by have := Z1.out.2; simp [World.setCell]; omega)
          · exact Below.setCell (Below.setCell B2.out (Nat.le_refl _) _) (Nat.le_refl _) _
        · have HV := Lib.hid (tvk.valid_no wh _ _ w1 hu.rows (tot_rows8 _) (fun h => hw (HOT.out.1 h)))
          have HR := Lib.hid (resG_no (al := (p : Int)) (os := os) (js := js) (wh := wh) (fun h => hw h.2.2.2))
          have B1 := Lib.hid hb
          clear hu hb HM hw HY
          go_wp2_with fail
          refine HV.out.mono ?_
          rintro e w2 ⟨rfl, hb2⟩
          have K1 := Lib.hid (Kr.out.below (below_tr B1.out hb2))
          have B2 := Lib.hid (below_tr B0.out (below_tr B1.out hb2))
          obtain ⟨r0, r1, rl⟩ := two_cells K1.out
          have rf : ∀ k, w2.frozen? ⟨w.heap.size, k, none⟩ = false := fun k => Joins.unfrozen_of_block K1.out k
          clear hb2 HV
          go_wp2_with fail
          refine bodyPost_ret (v := .tuple #[.agg #[.int .i64 0, .slice none 0 0], .bool false]) (by simp [results, Try.results30, go_sem, r0, r1]) rfl ?_
          rw [HR.out]
          refine ⟨_, rfl, OwnRows.nil _ _ _, ?_⟩
          exact Below.setCell (Below.setCell B2.out (Nat.le_refl _) _) (Nat.le_refl _) _
      · have HBJ := Lib.hid (by have h := HBJ.out; rw [withinB_no hjj] at h; exact h)
        rw [resG_no (fun h => hjj h.2.2.1)]
        clear hoo hjj hp
        go_enter Try.func30, Try.ntmps30
        go_wp2_with fail
        rw [← hW0]
        clear hW0
        refine (HPY.out _).mono ?_
        rintro e w' ⟨rfl, rfl⟩
        go_wp2_with fail
        refine HBO.out.mono ?_
        rintro e w' ⟨rfl, rfl⟩
        go_wp2_with fail
        refine HBJ.out.mono ?_
        rintro e w' ⟨rfl, rfl⟩
        go_wp2_with fail
        refine bodyPost_ret (v := .tuple #[.agg #[.int .i64 0, .slice none 0 0], .bool false]) (by simp [results, Try.results30, go_sem, r0, r1]) rfl ⟨_, rfl, OwnRows.nil _ _ _, ?_⟩
        exact Below.setCell (Below.setCell B0.out (Nat.le_refl _) _) (Nat.le_refl _) _
    · have HBO := Lib.hid (by have h := HBO.out; rw [withinB_no hoo] at h; exact h)
      rw [resG_no (fun h => hoo h.2.1)]
      clear hoo hp
      go_enter Try.func30, Try.ntmps30
      go_wp2_with fail
      rw [← hW0]
      clear hW0
      refine (HPY.out _).mono ?_
      rintro e w' ⟨rfl, rfl⟩
      go_wp2_with fail
      refine HBO.out.mono ?_
      rintro e w' ⟨rfl, rfl⟩
      go_wp2_with fail
      refine bodyPost_ret (v := .tuple #[.agg #[.int .i64 0, .slice none 0 0], .bool false]) (by simp [results, Try.results30, go_sem, r0, r1]) rfl ⟨_, rfl, OwnRows.nil _ _ _, ?_⟩
      exact Below.setCell (Below.setCell B0.out (Nat.le_refl _) _) (Nat.le_refl _) _
  · have HPY := Lib.hid (fun W => player_no al W ha)
    rw [resG_no (fun h => ha h.1)]
    clear ha
    go_enter Try.func30, Try.ntmps30
    go_wp2_with fail
    rw [← hW0]
    clear hW0
    refine (HPY.out _).mono ?_
    rintro e w' ⟨rfl, rfl⟩
    go_wp2_with fail
    refine bodyPost_ret (v := .tuple #[.agg #[.int .i64 0, .slice none 0 0], .bool false]) (by simp [results, Try.results30, go_sem, r0, r1]) rfl ⟨_, rfl, OwnRows.nil _ _ _, ?_⟩
    exact Below.setCell (Below.setCell B0.out (Nat.le_refl _) _) (Nat.le_refl _) _
end Go.Proofs.Ytomofmmecpdalaa.tgf
