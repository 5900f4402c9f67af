/- AskAgain: the plain words, the lists, the closure of the program. -/
import Derived.Test.YtkajebhagkbcaaaMake
import Derived.Test.YtkajebhagkbcaaaPlay
import Derived.Test.YtkajebhagkbcaaaStep
import Derived.Deep.RegionHeld3
import Derived.BigQuiet
namespace Go.Proofs.Ytkajebhagkbcaaa.aska
open Go.RowKit Go.Deep Go.Proofs.Ytkajebhagkbcaaa.base
open Go.Proofs.Ytkajebhagkbcaaa.ints (ret_int infoInt infoInts)
open Go.Proofs.Ytkajebhagkbcaaa.rws (total)
open Go.Proofs.Ytkajebhagkbcaaa.val (okSizes okBox boxB boxB_yes boxB_no)
open Go.Proofs.Ytkajebhagkbcaaa.play (within withinB withinB_yes withinB_no)
open Go.Proofs.Ytkajebhagkbcaaa.row (nn nn_bd at_ at_lt)

/-- a list of 1 to 3 numbers of 0..m -/
def good (xs : List Int) (m : Int) : Prop := (1 ≤ xs.length ∧ xs.length ≤ 3) ∧ ∀ k (h : k < xs.length), 0 ≤ xs[k] ∧ xs[k] ≤ m
open Classical in
noncomputable def goodB (xs : List Int) (m : Int) : Bool := if good xs m then true else false
theorem goodB_yes {xs : List Int} {m : Int} (h : good xs m) : goodB xs m = true := if_pos h
theorem goodB_no {xs : List Int} {m : Int} (h : ¬ good xs m) : goodB xs m = false := if_neg h
def N (xss : List (List Int)) (fs ss : List Int) (Y r k : Nat) : Int := nn xss ((fs.getD (r / ss.length) 0).toNat * Y + (ss.getD (r % ss.length) 0).toNat) k
theorem N_at (xss : List (List Int)) (fs ss : List Int) (Y a c k : Nat) (hc : c < ss.length) : N xss fs ss Y (a * ss.length + c) k = nn xss ((fs.getD a 0).toNat * Y + (ss.getD c 0).toNat) k := by
  unfold N
  rw [show (a * ss.length + c) / ss.length = a from by rw [Nat.mul_comm, Nat.mul_add_div (by omega), Nat.div_eq_of_lt hc, Nat.add_zero],
    show (a * ss.length + c) % ss.length = c from by rw [Nat.mul_comm, Nat.mul_add_mod, Nat.mod_eq_of_lt hc]]
theorem at_nat (a Y c : Nat) : at_ (Y : Int) (a : Int) (c : Int) = a * Y + c := by
  unfold at_
  rw [← Int.natCast_mul, ← Int.natCast_add, Int.toNat_natCast]
theorem getD_at {xs : List Int} {k : Nat} (h : k < xs.length) : xs.getD k 0 = xs[k] := by simp [List.getD, h]
def all (x y wh : Int) (xss : List (List Int)) (fs ss : List Int) : Prop := okBox x y wh xss ∧ good fs (x - 1) ∧ good ss (y - 1)
open Classical in
noncomputable def res (x y wh : Int) (xss : List (List Int)) (fs ss : List Int) : make.Res := if all x y wh xss fs ss then ⟨fs.length, ss.length, wh, make.rowsOf (N xss fs ss y.toNat) (fs.length * ss.length), true⟩ else make.Res.zero
theorem res_yes {x y wh : Int} {xss : List (List Int)} {fs ss : List Int} (h : all x y wh xss fs ss) : res x y wh xss fs ss = ⟨fs.length, ss.length, wh, make.rowsOf (N xss fs ss y.toNat) (fs.length * ss.length), true⟩ := if_pos h
theorem res_no {x y wh : Int} {xss : List (List Int)} {fs ss : List Int} (h : ¬ all x y wh xss fs ss) : res x y wh xss fs ss = make.Res.zero := if_neg h
theorem res_nat {X Y : Nat} {wh : Int} {xss : List (List Int)} {fs ss : List Int} (h : all X Y wh xss fs ss) : res X Y wh xss fs ss = ⟨fs.length, ss.length, wh, make.rowsOf (N xss fs ss Y) (fs.length * ss.length), true⟩ := by
  rw [res_yes h]; rfl
theorem len9 {x y wh : Int} {xss : List (List Int)} {fs ss : List Int} (h : all x y wh xss fs ss) : fs.length * ss.length ≤ 9 := Nat.mul_le_mul h.2.1.1.2 h.2.2.1.2
theorem tot (x y wh : Int) (xss : List (List Int)) (fs ss : List Int) : total (res x y wh xss fs ss).rows ≤ 1048576 := by
  by_cases h : all x y wh xss fs ss
  · rw [res_yes h]; exact make.total_rowsOf _ _ (len9 h)
  · rw [res_no h]; exact Nat.zero_le _
theorem good_within {xs : List Int} {m : Int} (h1 : 1 ≤ xs.length ∧ xs.length ≤ 3) : good xs m ↔ within (xs.length : Int) 0 m xs :=
  ⟨fun h => ⟨rfl, h.2⟩, fun h => ⟨h1, h.2⟩⟩
theorem offs8 {R : Nat} {w w' : World} {p0 p1 p2 p3 p4 p5 p6 p7 : Addr} {u0 u1 u2 u3 u4 u5 u6 u7 : Value} (h0 : w.cell? p0 = some u0) (h1 : w.cell? p1 = some u1) (h2 : w.cell? p2 = some u2) (h3 : w.cell? p3 = some u3) (h4 : w.cell? p4 = some u4) (h5 : w.cell? p5 = some u5) (h6 : w.cell? p6 = some u6) (h7 : w.cell? p7 = some u7)
    (n0 : p0.block ≠ R) (n1 : p1.block ≠ R) (n2 : p2.block ≠ R) (n3 : p3.block ≠ R) (n4 : p4.block ≠ R) (n5 : p5.block ≠ R) (n6 : p6.block ≠ R) (n7 : p7.block ≠ R) (h : step.Off R w w') :
    w'.cell? p0 = some u0 ∧ w'.cell? p1 = some u1 ∧ w'.cell? p2 = some u2 ∧ w'.cell? p3 = some u3 ∧ w'.cell? p4 = some u4 ∧ w'.cell? p5 = some u5 ∧ w'.cell? p6 = some u6 ∧ w'.cell? p7 = some u7 :=
  ⟨(h.2 _ n0 (World.block_lt_of_cell? _ _ h0)).trans h0, (h.2 _ n1 (World.block_lt_of_cell? _ _ h1)).trans h1, (h.2 _ n2 (World.block_lt_of_cell? _ _ h2)).trans h2, (h.2 _ n3 (World.block_lt_of_cell? _ _ h3)).trans h3, (h.2 _ n4 (World.block_lt_of_cell? _ _ h4)).trans h4, (h.2 _ n5 (World.block_lt_of_cell? _ _ h5)).trans h5, (h.2 _ n6 (World.block_lt_of_cell? _ _ h6)).trans h6, (h.2 _ n7 (World.block_lt_of_cell? _ _ h7)).trans h7⟩

set_option maxHeartbeats 1000000 in
theorem chances (v : Value) (xs : List Int) (m : Int) (w : World) (h : Ints w v xs) :
    Calls Try.prog 64 #[v, .int .i64 m] w fun e w' => e = .returned (.bool (goodB xs m)) ∧ w = w' := by
  obtain ⟨A, b, o, cap, rfl, hcap, hmax, hA, hc⟩ := h.form
  have hm : (xs.length : Int) ≤ 9223372036854775807 := by unfold maxLen at hmax; omega
  clear h hmax
  go_enter Try.func64, Try.ntmps64
  go_wp2
  go_loopw [4, 5] (fun q i wr => ∃ k : Nat, k ≤ xs.length ∧ i = .int .i64 k ∧ q = .bool false ∧ Hid (∀ j (h : j < xs.length), j < k → 0 ≤ xs[j] ∧ xs[j] ≤ m) ∧ w = wr) (fun _ i _ => xs.length - (intOf i).toNat)
  case atStart => exact ⟨0, Nat.zero_le _, rfl, rfl, fun j _ hj => by omega, rfl⟩
  case round =>
    obtain ⟨k, hk, rfl, rfl, hH, rfl⟩ := hrel
    by_cases hlt : k < xs.length
    · have hkz : (k : Int) < (xs.length : Int) := by omega
      obtain rfl := hA (by omega)
      have g0 := hc k hlt
      have HC := Lib.hid hc
      clear hc hA
      by_cases hin : 0 ≤ xs[k] ∧ xs[k] ≤ m
      · obtain ⟨i1, i2⟩ := hin
        go_wp2_with fail
        refine (val.in_yes _ _ _ _ i1 i2).mono ?_
        rintro e w' ⟨rfl, rfl⟩
        go_wp2_with fail
        go_roundw
        case rel =>
          refine ⟨k + 1, by omega, by go_num, rfl, fun j hj hj' => ?_, by first | rfl | trivial⟩
          by_cases e : j = k
          · subst e; exact ⟨i1, i2⟩
          · exact hH.out j hj (by omega)
        case measure => simp [intOf]; omega
      · have hbad : xs[k] < 0 ∨ m < xs[k] := by omega
        have HN : Hid (¬ good xs m) := Lib.hid (fun h => hin (h.2 k hlt))
        clear hin
        go_wp2_with fail
        refine (val.in_no _ _ _ _ hbad).mono ?_
        rintro e w' ⟨rfl, rfl⟩
        clear hbad
        go_wp2_with fail
        go_ret
        exact ⟨val.ret_b (goodB_no HN.out).symm, rfl⟩
    · have hkz : ¬ (k : Int) < (xs.length : Int) := by omega
      clear hc hA
      by_cases hl : 1 ≤ xs.length ∧ xs.length ≤ 3
      · have HN : Hid (good xs m) := Lib.hid ⟨hl, fun j hj => hH.out j hj (by omega)⟩
        obtain ⟨l1, l2⟩ := hl
        go_wp2_with fail
        refine (val.in_yes _ _ _ _ (by omega) (by omega)).mono ?_
        rintro e w' ⟨rfl, rfl⟩
        go_wp2_with fail
        go_ret
        exact ⟨val.ret_b (goodB_yes HN.out).symm, rfl⟩
      · have HN : Hid (¬ good xs m) := Lib.hid (fun h => hl h.1)
        have hbad : (xs.length : Int) < 1 ∨ 3 < (xs.length : Int) := by omega
        clear hl
        go_wp2_with fail
        refine (val.in_no _ _ _ _ hbad).mono ?_
        rintro e w' ⟨rfl, rfl⟩
        clear hbad
        go_wp2_with fail
        go_ret
        exact ⟨val.ret_b (goodB_no HN.out).symm, rfl⟩

set_option maxHeartbeats 4000000 in
theorem clo (p0 p1 p2 : Nat) (X Y : Nat) (wh : Int) (v vf vs : Value) (xss : List (List Int)) (fs ss : List Int) (a c : Nat) (w : World) (h0 : Blk w p0 24 #[.int .i64 (X : Int), .int .i64 (Y : Int), .int .i64 wh, v]) (h1 : w.cell? ⟨p1, 0, none⟩ = some vf) (h2 : w.cell? ⟨p2, 0, none⟩ = some vs)
    (hv : IRows w v xss) (hvf : Ints w vf fs) (hvs : Ints w vs ss) (hall : all X Y wh xss fs ss) (ha : a < fs.length) (hc : c < ss.length) :
    Calls Try.prog 84 #[.int .i64 (a : Int), .int .i64 (c : Int), .pointer (some ⟨p0, 0, none⟩), .pointer (some ⟨p1, 0, none⟩), .pointer (some ⟨p2, 0, none⟩)] w fun e w' =>
      e = .returned (.agg #[.int .i64 (N xss fs ss Y (a * ss.length + c) 0), .int .i64 (N xss fs ss Y (a * ss.length + c) 1), .int .i64 (N xss fs ss Y (a * ss.length + c) 2), .int .i64 (N xss fs ss Y (a * ss.length + c) 3)]) ∧ Below w.heap.size w w' := by
  rw [N_at _ _ _ _ _ _ 0 hc, N_at _ _ _ _ _ _ 1 hc, N_at _ _ _ _ _ _ 2 hc, N_at _ _ _ _ _ _ 3 hc]
  obtain ⟨hok, hgf, hgs⟩ := hall
  have f1 := hgf.2 a ha
  have f2 := hgs.2 c hc
  rw [getD_at ha, getD_at hc]
  obtain ⟨A, b, o, cap, rfl, _, _, hA, hcell⟩ := hvf.form
  obtain ⟨A', b', o', cap', rfl, _, _, hA', hcell'⟩ := hvs.form
  obtain rfl := hA (by omega)
  obtain rfl := hA' (by omega)
  have g1 := hcell a ha
  have g2 := hcell' c hc
  have i1 : (a : Int) < (fs.length : Int) := by omega
  have i2 : (c : Int) < (ss.length : Int) := by omega
  generalize fs[a] = p at *
  generalize ss[c] = q at *
  obtain ⟨P, rfl⟩ : ∃ P : Nat, p = P := ⟨p.toNat, by omega⟩
  obtain ⟨M, rfl⟩ : ∃ M : Nat, q = M := ⟨q.toNat, by omega⟩
  have HRW := (fun (W : World) (hb : Below w.heap.size w W) => row.rowof X Y wh P M v xss W (hv.below hb) hok (by omega) (by omega) (by omega) (by omega))
  rw [at_nat] at HRW
  rw [Int.toNat_natCast, Int.toNat_natCast]
  obtain ⟨va, vl, vc, rfl⟩ := hv.shape
  generalize nn xss (P * Y + M) 0 = n0 at *
  generalize nn xss (P * Y + M) 1 = n1 at *
  generalize nn xss (P * Y + M) 2 = n2 at *
  generalize nn xss (P * Y + M) 3 = n3 at *
  have H1 := Lib.hid HRW
  have B0 := Lib.hid (below_al (Below.refl w.heap.size w) (.cells #[.int .i64 0, .int .i64 0, .int .i64 0, .int .i64 0] 64))
  have R0 := Lib.hid (Blk.new w 64 #[.int .i64 0, .int .i64 0, .int .i64 0, .int .i64 0])
  have l0 : p0 < w.heap.size := h0.lt
  have l1 : p1 < w.heap.size := World.block_lt_of_cell? _ _ h1
  have l2 : p2 < w.heap.size := World.block_lt_of_cell? _ _ h2
  have l3 : b < w.heap.size := World.block_lt_of_cell? _ _ g1
  have l4 : b' < w.heap.size := World.block_lt_of_cell? _ _ g2
  have ne0 : p0 ≠ w.heap.size := by omega
  have ne1 : p1 ≠ w.heap.size := by omega
  have ne2 : p2 ≠ w.heap.size := by omega
  have ne3 : b ≠ w.heap.size := by omega
  have ne4 : b' ≠ w.heap.size := by omega
  obtain ⟨c0, c1, c2, c3, c4⟩ := four_cells (h0.below B0.out)
  have e1 := below_cell B0.out _ _ h1
  have e2 := below_cell B0.out _ _ h2
  have e3 := below_cell B0.out _ _ g1
  have e4 := below_cell B0.out _ _ g2
  clear hcell hA hcell' hA' hv hvf hvs hok hgf hgs h0 h1 h2 g1 g2 HRW f1 f2
  go_enter Try.func84, Try.ntmps84
  go_wp2_with fail
  go_region_held3 (fun w' => w'.cell? ⟨p0, 0, none⟩ = some (.int .i64 (X : Int)) ∧ w'.cell? ⟨p0, 1, none⟩ = some (.int .i64 (Y : Int)) ∧ w'.cell? ⟨p0, 2, none⟩ = some (.int .i64 wh) ∧ w'.cell? ⟨p0, 3, none⟩ = some (.slice va vl vc) ∧ w'.cell? ⟨p1, 0, none⟩ = some (.slice (some ⟨b, o, none⟩) fs.length cap) ∧ w'.cell? ⟨p2, 0, none⟩ = some (.slice (some ⟨b', o', none⟩) ss.length cap') ∧ w'.cell? ⟨b, o + a, none⟩ = some (.int .i64 (P : Int)) ∧ w'.cell? ⟨b', o' + c, none⟩ = some (.int .i64 (M : Int)))
    ((refine offs8 (R := w.heap.size) c0 c1 c2 c3 e1 e2 e3 e4 ne0 ne0 ne0 ne0 ne1 ne2 ne3 ne4 ?_; repeat (first | (with_reducible exact step.Off.refl _ _) | (with_reducible refine step.Off.drew ?_) | (with_reducible refine step.Off.setCell ?_ _ _ rfl) | (with_reducible refine step.Off.below ?_ hb1))))
    (first
      | (go_at_call 71; (with_reducible refine (H1.out _ (below_dr B0.out)).mono ?_); rintro e w3 ⟨rfl, hb1⟩; have R4 := R0.out.below (below_tr (below_dr (Below.refl _ _)) hb1); obtain ⟨r0, r1, r2, r3, r4⟩ := four_cells R4; have rf : ∀ k, w3.frozen? ⟨w.heap.size, k, none⟩ = false := fun k => Joins.unfrozen_of_block R4 k))
  have B4 := Lib.hid (below_tr B0.out (below_tr (below_dr (Below.refl _ _)) hb1))
  clear hb1 R4 c0 c1 c2 c3 c4 e1 e2 e3 e4
  go_wp2_with fail
  refine bodyPost_ret (v := .agg #[.int .i64 n0, .int .i64 n1, .int .i64 n2, .int .i64 n3]) (by simp [results, Try.results84, go_sem, r0, r1, r2, r3]) rfl ⟨rfl, ?_⟩
  repeat (refine Below.setCell ?_ (by simp <;> omega) _)
  exact B4.out

set_option maxHeartbeats 4000000 in
theorem make_anyR (p0 p1 p2 : Nat) (X Y : Nat) (N : Nat → Nat → Int) (w : World) (hX : X ≤ 3) (hY : Y ≤ 3)
    (hrow : ∀ (i j : Nat) (W : World), i < X → j < Y → Below w.heap.size w W → Calls Try.prog 84 #[.int .i64 (i : Int), .int .i64 (j : Int), .pointer (some ⟨p0, 0, none⟩), .pointer (some ⟨p1, 0, none⟩), .pointer (some ⟨p2, 0, none⟩)] W fun e w' =>
      e = .returned (.agg #[.int .i64 (N (i * Y + j) 0), .int .i64 (N (i * Y + j) 1), .int .i64 (N (i * Y + j) 2), .int .i64 (N (i * Y + j) 3)]) ∧ Below W.heap.size W w') :
    Calls Try.prog 102 #[.int .i64 (X : Int), .int .i64 (Y : Int), .func (.func 84) #[] #[.pointer (some ⟨p0, 0, none⟩), .pointer (some ⟨p1, 0, none⟩), .pointer (some ⟨p2, 0, none⟩)]] w fun e w' => ∃ u, e = .returned u ∧
      OwnRows w' w.heap.size w'.heap.size u (make.rowsOf N (X * Y)) ∧ Below w.heap.size w w' := by
  obtain ⟨i0, hi, hz0, hz1, hz2⟩ := info_parts infoInts
  have h9 : X * Y ≤ 9 := Nat.mul_le_mul hX hY
  have hm : (X : Int) * (Y : Int) = ((X * Y : Nat) : Int) := by simp
  have hmk := app.mk0s (X * Y) (by omega)
  rw [← hm] at hmk
  have hw1 : IntKind.i64.wrap ((X : Int) * (Y : Int)) = (X : Int) * (Y : Int) := IntWalk.i64_in _ (by omega)
  have HM := Lib.hid hm
  have HR := Lib.hid hrow
  have P0 : Hid (pile.Pile w (w.alloc (.cells (madeCells #[.slice none 0 0] (X * Y)) 30)) w.heap.size (w.alloc (.cells (madeCells #[.slice none 0 0] (X * Y)) 30)).heap.size (.slice (some ⟨w.heap.size, 0, none⟩) 0 (X * Y)) [] (make.rowsOf N (0 * Y))) := Lib.hid (by
    rw [Nat.zero_mul]
    refine pile.start (below_al (Below.refl _ _) _) (Nat.le_refl _) ?_ (by simp)
    have := World.ownsRow_made (base := w.heap.size) (e := 30) (size := 1) w (madeCells #[.slice none 0 0] (X * Y)) (X * Y) (Nat.le_refl _) (by unfold maxLen; omega) (by simp [madeCells])
    simpa using this)
  clear hm hrow
  go_enter Try.func102, Try.ntmps102
  go_wp2_with fail
  clear hmk hw1
  go_loopw [7, 17] (fun v i wr => ∃ a : Nat, a ≤ X ∧ i = .int .i64 a ∧ ∃ vals, Hid (pile.Pile w wr w.heap.size wr.heap.size v vals (make.rowsOf N (a * Y)))) (fun _ i _ => X - (intOf i).toNat)
  case atStart => exact ⟨0, Nat.zero_le _, rfl, _, P0⟩
  case round =>
    obtain ⟨a, ha, rfl, vals, hP⟩ := hrel
    clear P0
    obtain ⟨wo, rfl⟩ : ∃ wo : World, wo = wr := ⟨_, rfl⟩
    by_cases hlt : a < X
    · have hkz : (a : Int) < (X : Int) := by omega
      go_wp2_with fail
      go_loopw [7, 21] (fun v j wi => ∃ c : Nat, c ≤ Y ∧ j = .int .i64 c ∧ ∃ vals, Hid (pile.Pile w wi w.heap.size wi.heap.size v vals (make.rowsOf N (a * Y + c)))) (fun _ j _ => Y - (intOf j).toNat)
      case atStart => exact ⟨0, Nat.zero_le _, rfl, _, hP⟩
      case round =>
        obtain ⟨c, hc, rfl, vals, hP⟩ := hrel
        obtain ⟨wi, rfl⟩ : ∃ wi : World, wi = wr := ⟨_, rfl⟩
        by_cases hlc : c < Y
        · have hkc : (c : Int) < (Y : Int) := by omega
          have HCA := Lib.hid (HR.out a c wi hlt hlc hP.out.below)
          have hk9 : a * Y + c < 9 := by
            have h1 : a * Y + c < (a + 1) * Y := by rw [Nat.add_mul]; omega
            have h2 : (a + 1) * Y ≤ X * Y := Nat.mul_le_mul_right _ (by omega)
            omega
          have HK9 := Lib.hid hk9
          have HLE := Lib.hid (make.len_rowsOf N (a * Y + c))
          clear hk9
          go_wp2_with fail
          refine HCA.out.mono ?_
          rintro e w2 ⟨rfl, hb⟩
          have W2 := Lib.hid (hP.out.keep hb)
          have hcp := row.copy4p (W := w2.alloc (.cells #[.int .i64 (N (a * Y + c) 0), .int .i64 (N (a * Y + c) 1), .int .i64 (N (a * Y + c) 2), .int .i64 (N (a * Y + c) 3)] 64)) (b := w2.heap.size) (o := 0) (cap := 4) (n := w2.heap.size + 1)
            (n0 := .int .i64 (N (a * Y + c) 0)) (n1 := .int .i64 (N (a * Y + c) 1)) (n2 := .int .i64 (N (a * Y + c) 2)) (n3 := .int .i64 (N (a * Y + c) 3)) #[.int .i64 0, .int .i64 0, .int .i64 0, .int .i64 0] 3 rfl (by simp)
            (by rw [Joins.cell_of_block (heap_alloc_new w2 _)]; rfl) (by rw [Joins.cell_of_block (heap_alloc_new w2 _)]; rfl) (by rw [Joins.cell_of_block (heap_alloc_new w2 _)]; rfl) (by rw [Joins.cell_of_block (heap_alloc_new w2 _)]; rfl) rfl rfl rfl rfl
          have hrowis : ((w2.alloc (.cells #[.int .i64 (N (a * Y + c) 0), .int .i64 (N (a * Y + c) 1), .int .i64 (N (a * Y + c) 2), .int .i64 (N (a * Y + c) 3)] 64)).alloc (.cells #[.int .i64 (N (a * Y + c) 0), .int .i64 (N (a * Y + c) 1), .int .i64 (N (a * Y + c) 2), .int .i64 (N (a * Y + c) 3)] 3)).rowIs (w2.heap.size + 1) 3 4 (fun j => .int .i64 ((make.quad N (a * Y + c)).getD j 0)) := by
            refine ⟨#[.int .i64 (N (a * Y + c) 0), .int .i64 (N (a * Y + c) 1), .int .i64 (N (a * Y + c) 2), .int .i64 (N (a * Y + c) 3)], by
              have := heap_alloc_new (w2.alloc (.cells #[.int .i64 (N (a * Y + c) 0), .int .i64 (N (a * Y + c) 1), .int .i64 (N (a * Y + c) 2), .int .i64 (N (a * Y + c) 3)] 64)) (.cells #[.int .i64 (N (a * Y + c) 0), .int .i64 (N (a * Y + c) 1), .int .i64 (N (a * Y + c) 2), .int .i64 (N (a * Y + c) 3)] 3)
              simpa using this, rfl, fun i hi => ?_⟩
            match i, hi with
            | 0, _ => rfl
            | 1, _ => rfl
            | 2, _ => rfl
            | 3, _ => rfl
          have HRI := Lib.hid (hrowis.alloc (.cells #[.slice (some ⟨w2.heap.size + 1, 0, none⟩) 4 4] 30))
          have P3 := Lib.hid (((W2.out.keep (below_al (Below.refl _ _) (.cells #[.int .i64 (N (a * Y + c) 0), .int .i64 (N (a * Y + c) 1), .int .i64 (N (a * Y + c) 2), .int .i64 (N (a * Y + c) 3)] 64))).keep (below_al (Below.refl _ _) (.cells #[.int .i64 (N (a * Y + c) 0), .int .i64 (N (a * Y + c) 1), .int .i64 (N (a * Y + c) 2), .int .i64 (N (a * Y + c) 3)] 3))).keep (below_al (Below.refl _ _) (.cells #[.slice (some ⟨w2.heap.size + 1, 0, none⟩) 4 4] 30)))
          have hm4 := make.mk4
          have hsz := hb.size
          have hsw := W2.out.below.size
          clear hb hP HCA hrowis W2
          go_wp2_with (at_builtin; go_must (refine wpList_append_own _ rfl (.tmp 32) (.tmp 34) 22 rfl w.heap.size 30 i0 (.slice none 0 0) 1 24 Try.underlying22 hi hz0 hz1 hz2 rfl (by decide) _ _ _ rfl P3.out.owns ⟨w2.heap.size + 1 + 1, 0, none⟩ 1 1 [.slice (some ⟨w2.heap.size + 1, 0, none⟩) 4 4] rfl rfl ?c1 ?c2 ?c3 ?c4 ?c5 ?_))
          case c1 =>
            have := app.one_at ((w2.alloc (.cells #[.int .i64 (N (a * Y + c) 0), .int .i64 (N (a * Y + c) 1), .int .i64 (N (a * Y + c) 2), .int .i64 (N (a * Y + c) 3)] 64)).alloc (.cells #[.int .i64 (N (a * Y + c) 0), .int .i64 (N (a * Y + c) 1), .int .i64 (N (a * Y + c) 2), .int .i64 (N (a * Y + c) 3)] 3)) (.slice (some ⟨w2.heap.size + 1, 0, none⟩) 4 4) 30
            simpa using this
          case c2 => intro u hu; simp at hu; subst hu; rfl
          case c3 => rw [HLE.out]; have := HK9.out; unfold maxLen; omega
          case c4 => rw [HLE.out]; have := HK9.out; omega
          case c5 => simp; omega
          intro v' w3 hown' hgrow _
          have P4 : Hid (pile.Pile w w3 w.heap.size w3.heap.size v' (vals ++ [.slice (some ⟨w2.heap.size + 1, 0, none⟩) 4 4]) (make.rowsOf N (a * Y + (c + 1)))) := Lib.hid (by
            have e : make.rowsOf N (a * Y + (c + 1)) = make.rowsOf N (a * Y + c) ++ [make.quad N (a * Y + c)] := by simp [make.rowsOf, ← Nat.add_assoc, List.range_succ]
            rw [e]
            refine P3.out.grow (m' := w2.heap.size + 1) (T := w2.heap.size + 1 + 1) (ints.own_of_row (xs := make.quad N (a * Y + c)) HRI.out (Nat.le_refl _) (by omega) (by simp [make.quad, maxLen])) (by omega) (by simp) (pile.typ_row HRI.out _ _) hown' hgrow)
          obtain ⟨va, vl, vc, rfl⟩ := make.shape hown'
          clear hown' hgrow P3 HRI hcp hm4
          go_wp2_with fail
          go_roundw
          case rel => exact ⟨c + 1, by omega, by go_num, _, P4⟩
          case measure => simp [intOf]; omega
        · have hkc : ¬ (c : Int) < (Y : Int) := by omega
          obtain rfl : c = Y := by omega
          go_wp2_with fail
          go_roundw
          case rel => exact ⟨a + 1, by omega, by go_num, vals, by rw [Nat.add_mul, Nat.one_mul]; exact hP⟩
          case measure => simp [intOf]; omega
    · have hkz : ¬ (a : Int) < (X : Int) := by omega
      obtain rfl : a = X := by omega
      obtain ⟨va, vl, vc, rfl⟩ := make.shape hP.out.owns
      go_wp2_with fail
      go_ret
      exact ⟨_, rfl, hP.out.rows, hP.out.below⟩

set_option maxHeartbeats 2000000 in
theorem make_any (p0 p1 p2 : Nat) (X Y : Nat) (wh : Int) (N : Nat → Nat → Int) (w : World) (hX : X ≤ 3) (hY : Y ≤ 3)
    (hrow : ∀ (i j : Nat) (W : World), i < X → j < Y → Below w.heap.size w W → Calls Try.prog 84 #[.int .i64 (i : Int), .int .i64 (j : Int), .pointer (some ⟨p0, 0, none⟩), .pointer (some ⟨p1, 0, none⟩), .pointer (some ⟨p2, 0, none⟩)] W fun e w' =>
      e = .returned (.agg #[.int .i64 (N (i * Y + j) 0), .int .i64 (N (i * Y + j) 1), .int .i64 (N (i * Y + j) 2), .int .i64 (N (i * Y + j) 3)]) ∧ Below W.heap.size W w') :
    Calls Try.prog 56 #[.int .i64 (X : Int), .int .i64 (Y : Int), .int .i64 wh, .func (.func 84) #[] #[.pointer (some ⟨p0, 0, none⟩), .pointer (some ⟨p1, 0, none⟩), .pointer (some ⟨p2, 0, none⟩)]] w fun e w' => ∃ u, e = .returned (.agg #[.int .i64 (X : Int), .int .i64 (Y : Int), .int .i64 wh, u]) ∧
      OwnRows w' w.heap.size w'.heap.size u (make.rowsOf N (X * Y)) ∧ Below w.heap.size w w' := by
  have HC : Hid (∀ W, Below w.heap.size w W → Calls Try.prog 102 #[.int .i64 (X : Int), .int .i64 (Y : Int), .func (.func 84) #[] #[.pointer (some ⟨p0, 0, none⟩), .pointer (some ⟨p1, 0, none⟩), .pointer (some ⟨p2, 0, none⟩)]] W fun e w' => ∃ u, e = .returned u ∧
      OwnRows w' W.heap.size w'.heap.size u (make.rowsOf N (X * Y)) ∧ Below W.heap.size W w') := Lib.hid (fun W hW => make_anyR p0 p1 p2 X Y N W hX hY (fun i j W' h1 h2 hb => hrow i j W' h1 h2 (below_tr hW hb)))
  clear hrow
  go_enter Try.func56, Try.ntmps56
  go_wp2_with fail
  refine (HC.out _ (below_al (Below.refl _ _) _)).mono ?_
  rintro e w1 ⟨u, rfl, hu, hb⟩
  obtain ⟨va, vl, vc, rfl⟩ := hu.rows.shape
  have HU := Lib.hid hu
  have HB := Lib.hid hb
  have HRS := Lib.hid ((Blk.new w 24 #[.int .i64 0, .int .i64 0, .int .i64 0, .slice none 0 0]).below hb)
  obtain ⟨r0, r1, r2, r3, r4⟩ := four_cells HRS.out
  have rf : ∀ k, w1.frozen? ⟨w.heap.size, k, none⟩ = false := fun k => Joins.unfrozen_of_block HRS.out k
  clear hu hb
  go_wp2_with fail
  refine bodyPost_ret (v := .agg #[.int .i64 (X : Int), .int .i64 (Y : Int), .int .i64 wh, .slice va vl vc]) (by simp [results, Try.results56, go_sem, r0, r1, r2, r3]) rfl ⟨_, rfl, ?_, ?_⟩
  · refine (HU.out.wrote (S := fun p => p.block < w.heap.size + 1) ?_ (fun p hp => .inl (by simpa using hp))).mono (by simp) (by simp [World.setCell])
    repeat (first | exact Wrote.refl _ _ | refine Wrote.setCell ?_ (by simp) _)
  · repeat (refine Below.setCell ?_ (by simp <;> omega) _)
    exact below_tr (below_al (Below.refl _ _) _) HB.out

end Go.Proofs.Ytkajebhagkbcaaa.aska
