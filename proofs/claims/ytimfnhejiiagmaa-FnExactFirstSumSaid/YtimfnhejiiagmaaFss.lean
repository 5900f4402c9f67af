/- FirstSum of the model. -/
import Derived.Test.YtimfnhejiiagmaaGss
import Derived.Test.YtimfnhejiiagmaaFst
import Derived.Deep.RegionHeld3
namespace Go.Proofs.Ytimfnhejiiagmaa.fss
open Go.RowKit Go.Deep Go.Proofs.Ytimfnhejiiagmaa.base
open Go.Proofs.Ytimfnhejiiagmaa.val (okSizes okBox boxB boxB_yes boxB_no)
open Go.Proofs.Ytimfnhejiiagmaa.prt (two_cells)
open Go.Proofs.Ytimfnhejiiagmaa.gsm
open Go.Proofs.Ytimfnhejiiagmaa.gsg (Is bst seven_cells l3greatest)
open Go.Proofs.Ytimfnhejiiagmaa.fst (Ans all at_ res res_yes res_no tup Kp st4)

theorem num_pos {X Y : Nat} (hX : X ≤ 3) (hY : Y ≤ 3) : 0 < num X Y ↔ 2 ≤ X ∧ 2 ≤ Y := by
  rcases (by omega : X = 0 ∨ X = 1 ∨ X = 2 ∨ X = 3) with rfl | rfl | rfl | rfl <;> rcases (by omega : Y = 0 ∨ Y = 1 ∨ Y = 2 ∨ Y = 3) with rfl | rfl | rfl | rfl <;> decide
theorem offs7 {R R' k : Nat} {w w' : World} {cs : Array Value} {t : TypeId} (hB : Blk w k t cs) (h1 : k ≠ R) (h2 : k ≠ R') (h : Wrote (fun p => p.block = R ∨ p.block = R') w w') : Blk w' k t cs :=
  hB.wrote h (fun p hp e => by rcases hp with g | g <;> omega)


set_option maxRecDepth 100000 in
set_option maxHeartbeats 8000000 in
theorem spec_any (x y wh : Int) (v : Value) (xss : List (List Int)) (w : World) (h : IRows w v xss) (hn : rws.total xss ≤ 1048576) :
    Calls Try.prog 16 #[.agg #[.int .i64 x, .int .i64 y, .int .i64 wh, v]] w fun e w' => e = .returned (tup (res x y wh xss)) ∧ Below w.heap.size w w' := by
  obtain ⟨va, vn, vc, rfl⟩ := h.shape
  have HV := Lib.hid h
  have T0 := Lib.hid (Kp.start w x y wh (.slice va vn vc))
  have HC := Lib.hid (fun W (hb : Below w.heap.size w W) => val.spec_any x y wh (.slice va vn vc) xss W (h.below hb) hn)
  obtain ⟨b0, b1, b2, b3, _⟩ := four_cells T0.out.box
  clear h
  by_cases hok : okBox x y wh xss
  · rw [boxB_yes hok] at HC
    obtain ⟨⟨s1, s2⟩, s3, s4⟩ := hok.1
    by_cases hx : x < 2
    · have HR : Hid (res x y wh xss = ⟨0, 0, 0, 0, 0, false⟩) := Lib.hid (res_no (fun g => by have := (num_pos (by omega) (by omega)).1 g.2; omega))
      clear hok s1 s2 s3 s4
      go_enter Try.func16, Try.ntmps16
      go_wp2_with fail
      refine (HC.out _ T0.out.below).mono ?_
      rintro e w1 ⟨rfl, hb⟩
      have T1 := Lib.hid (T0.out.keep hb)
      clear hb b0 b1 b2 b3 T0 HC
      obtain ⟨b0, b1, b2, b3, _⟩ := four_cells T1.out.box
      obtain ⟨c0, c1, _⟩ := two_cells T1.out.one
      obtain ⟨d0, d1, _⟩ := two_cells T1.out.two
      have rf : ∀ j, w1.frozen? ⟨w.heap.size + 1, j, none⟩ = false := fun j => Joins.unfrozen_of_block T1.out.one j
      have rf2 : ∀ j, w1.frozen? ⟨w.heap.size + 1 + 1, j, none⟩ = false := fun j => Joins.unfrozen_of_block T1.out.two j
      go_wp2_with fail
      obtain ⟨f0, f1, f2, f3, hB⟩ := T1.out.fin 0 0 0 0
      unfold st4 at f0 f1 f2 f3 hB
      refine bodyPost_ret (v := tup ⟨0, 0, 0, 0, 0, false⟩) ?_ rfl ⟨by rw [HR.out], hB⟩
      simp [results, Try.results16, go_sem, tup, f0, f1, f2, f3]
    · by_cases hy : y < 2
      · have HR : Hid (res x y wh xss = ⟨0, 0, 0, 0, 0, false⟩) := Lib.hid (res_no (fun g => by have := (num_pos (by omega) (by omega)).1 g.2; omega))
        clear hok s1 s2 s3 s4
        go_enter Try.func16, Try.ntmps16
        go_wp2_with fail
        refine (HC.out _ T0.out.below).mono ?_
        rintro e w1 ⟨rfl, hb⟩
        have T1 := Lib.hid (T0.out.keep hb)
        clear hb b0 b1 b2 b3 T0 HC
        obtain ⟨b0, b1, b2, b3, _⟩ := four_cells T1.out.box
        obtain ⟨c0, c1, _⟩ := two_cells T1.out.one
        obtain ⟨d0, d1, _⟩ := two_cells T1.out.two
        have rf : ∀ j, w1.frozen? ⟨w.heap.size + 1, j, none⟩ = false := fun j => Joins.unfrozen_of_block T1.out.one j
        have rf2 : ∀ j, w1.frozen? ⟨w.heap.size + 1 + 1, j, none⟩ = false := fun j => Joins.unfrozen_of_block T1.out.two j
        go_wp2_with fail
        obtain ⟨f0, f1, f2, f3, hB⟩ := T1.out.fin 0 0 0 0
        unfold st4 at f0 f1 f2 f3 hB
        refine bodyPost_ret (v := tup ⟨0, 0, 0, 0, 0, false⟩) ?_ rfl ⟨by rw [HR.out], hB⟩
        simp [results, Try.results16, go_sem, tup, f0, f1, f2, f3]
      · have hpos := (num_pos (X := x.toNat) (Y := y.toNat) (by omega) (by omega)).2 ⟨by omega, by omega⟩
        have hr := res_yes (x := x) (y := y) (wh := wh) (xss := xss) ⟨hok, hpos⟩
        obtain ⟨X, rfl⟩ : ∃ X : Nat, x = X := ⟨x.toNat, by have := hok.1.1; omega⟩
        obtain ⟨Y, rfl⟩ : ∃ Y : Nat, y = Y := ⟨y.toNat, by have := hok.1.2; omega⟩
        have HG := Lib.hid (fun W (hb : Below w.heap.size w W) => l3greatest X Y wh (.slice va vn vc) xss W (HV.out.below hb) hok)
        have HR : Hid (∀ s a b c d m fd, Is xss X Y (num X Y) s a b c d m fd → res X Y wh xss = ⟨a, b, c, d, m, true⟩) := Lib.hid (fun s a b c d m fd hI => by
          have hp : 0 < num X Y := by simpa using hpos
          obtain ⟨q1, q2, q3⟩ := hI.2.2 hp
          have e : at_ X Y xss = bs (f xss X Y) (num X Y) := by simp [at_]
          rw [hr, e]
          simp [q1, q2, q3])
        clear hok s1 s2 s3 s4 hpos hr
        go_enter Try.func16, Try.ntmps16
        go_wp2_with fail
        refine (HC.out _ T0.out.below).mono ?_
        rintro e w1 ⟨rfl, hb⟩
        have T1 := Lib.hid (T0.out.keep hb)
        clear hb b0 b1 b2 b3 T0 HC
        obtain ⟨b0, b1, b2, b3, _⟩ := four_cells T1.out.box
        go_wp2_with fail
        refine (HG.out _ T1.out.below).mono ?_
        rintro e w2 ⟨s, a, b, c, d, m, fd, rfl, hIs, hb⟩
        have HRR := Lib.hid (HR.out _ _ _ _ _ _ _ hIs)
        have T2 := Lib.hid ((T1.out.keep hb).keep (below_al (Below.refl _ _) (.cells (bst s a b c d m fd) 83)))
        have KB := Lib.hid (Blk.new w2 83 (bst s a b c d m fd))
        have lw2 : w.heap.size + 1 + 1 < w2.heap.size := (T1.out.keep hb).two.lt
        clear hIs hb b0 b1 b2 b3 HG HR T1
        unfold bst at T2 KB ⊢
        obtain ⟨c0, c1, _⟩ := two_cells T2.out.one
        obtain ⟨d0, d1, _⟩ := two_cells T2.out.two
        obtain ⟨k0, k1, k2, k3, k4, k5, k6, _⟩ := seven_cells KB.out
        have rf := fun j => Joins.unfrozen_of_block T2.out.one j
        have rf2 := fun j => Joins.unfrozen_of_block T2.out.two j
        go_wp2_with fail
        have HNE : Hid (∀ p : Addr, p = ⟨w2.heap.size, 1, none⟩ ∨ p = ⟨w2.heap.size, 2, none⟩ ∨ p = ⟨w2.heap.size, 3, none⟩ ∨ p = ⟨w2.heap.size, 4, none⟩ ∨ p = ⟨w2.heap.size, 5, none⟩ → p.block ≠ w.heap.size + 1 ∧ p.block ≠ w.heap.size + 1 + 1) := Lib.hid (by
          rintro p (rfl | rfl | rfl | rfl | rfl) <;> exact ⟨by show w2.heap.size ≠ _; omega, by show w2.heap.size ≠ _; omega⟩)
        go_region_held3 (fun w' => w'.cell? ⟨w2.heap.size, 1, none⟩ = some (.int .i64 a) ∧ w'.cell? ⟨w2.heap.size, 2, none⟩ = some (.int .i64 b) ∧ w'.cell? ⟨w2.heap.size, 3, none⟩ = some (.int .i64 c) ∧ w'.cell? ⟨w2.heap.size, 4, none⟩ = some (.int .i64 d) ∧ w'.cell? ⟨w2.heap.size, 5, none⟩ = some (.int .i64 m))
          ((refine fst.offs5 (R := w.heap.size + 1) (R' := w.heap.size + 1 + 1) k1 k2 k3 k4 k5 HNE.out ?_; repeat (first | (with_reducible exact Wrote.refl _ _) | (with_reducible refine Wrote.drew ?_) | (with_reducible refine Wrote.setCell ?_ (by simp) _))))
          (first | fail)
        all_goals
          obtain ⟨f0, f1, f2, f3, hB9⟩ := T2.out.fin a b c d
          unfold st4 at f0 f1 f2 f3 hB9
          clear k0 k1 k2 k3 k4 k5 k6 c0 c1 d0 d1 rf rf2
          go_wp2_with fail
          refine bodyPost_ret (v := tup ⟨a, b, c, d, m, true⟩) ?_ rfl ⟨by rw [HRR.out], by first | exact hB9 | exact below_dr hB9⟩
          simp [results, Try.results16, go_sem, tup, f0, f1, f2, f3]
  · rw [boxB_no hok] at HC
    have HR : Hid (res x y wh xss = ⟨0, 0, 0, 0, 0, false⟩) := Lib.hid (res_no (fun g => hok g.1))
    clear hok
    go_enter Try.func16, Try.ntmps16
    go_wp2_with fail
    refine (HC.out _ T0.out.below).mono ?_
    rintro e w1 ⟨rfl, hb⟩
    have T1 := Lib.hid (T0.out.keep hb)
    clear hb b0 b1 b2 b3 T0 HC
    obtain ⟨c0, c1, _⟩ := two_cells T1.out.one
    obtain ⟨d0, d1, _⟩ := two_cells T1.out.two
    have rf : ∀ j, w1.frozen? ⟨w.heap.size + 1, j, none⟩ = false := fun j => Joins.unfrozen_of_block T1.out.one j
    have rf2 : ∀ j, w1.frozen? ⟨w.heap.size + 1 + 1, j, none⟩ = false := fun j => Joins.unfrozen_of_block T1.out.two j
    go_wp2_with fail
    obtain ⟨f0, f1, f2, f3, hB⟩ := T1.out.fin 0 0 0 0
    unfold st4 at f0 f1 f2 f3 hB
    refine bodyPost_ret (v := tup ⟨0, 0, 0, 0, 0, false⟩) ?_ rfl ⟨by rw [HR.out], hB⟩
    simp [results, Try.results16, go_sem, tup, f0, f1, f2, f3]

end Go.Proofs.Ytimfnhejiiagmaa.fss
