/- SignWorth of both sides. -/
import Derived.Test.YtfkdhdiacelcjaaSgfs
import Derived.Test.YtfkdhdiacelcjaaWorthc
namespace Go.Proofs.Ytfkdhdiacelcjaa.sgw
open Go.RowKit Go.Deep Go.Proofs.Ytfkdhdiacelcjaa.base
open Go.Proofs.Ytfkdhdiacelcjaa.rws (total)
open Go.Proofs.Ytfkdhdiacelcjaa.sgn (wide okSign signB signB_yes signB_no)
open Go.Proofs.Ytfkdhdiacelcjaa.val (okBox boxB boxB_yes boxB_no okSizes)
open Go.Proofs.Ytfkdhdiacelcjaa.row (nn)
open Go.Proofs.Ytfkdhdiacelcjaa.worth (okFun)

def allS (x y wh : Int) (mss xss : List (List Int)) : Prop := okSign mss ∧ okBox x y wh xss ∧ x = (mss.length : Int) ∧ y = ((wide mss : Nat) : Int)
open Classical in
noncomputable def res (x y wh : Int) (mss xss : List (List Int)) : Int × Bool := if allS x y wh mss xss then (worth.worth (sgf.rows mss (mss.length * wide mss)) xss, true) else (0, false)
theorem res_yes {x y wh : Int} {mss xss : List (List Int)} (h : allS x y wh mss xss) : res x y wh mss xss = (worth.worth (sgf.rows mss (mss.length * wide mss)) xss, true) := if_pos h
theorem res_no {x y wh : Int} {mss xss : List (List Int)} (h : ¬ allS x y wh mss xss) : res x y wh mss xss = (0, false) := if_neg h
theorem el_bd {mss : List (List Int)} (h : okSign mss) {t : Nat} (ht : t < mss.length * wide mss) : -9 ≤ sgf.el mss t ∧ sgf.el mss t ≤ 9 := by
  have hw := (sgn.wide3 h).1
  exact sgn.nn_bd h (by rw [Nat.div_lt_iff_lt_mul (by omega)]; exact ht) (Nat.mod_lt _ (by omega))
theorem fun_ok {mss : List (List Int)} (h : okSign mss) : okFun mss.length ((wide mss : Nat) : Int) (sgf.rows mss (mss.length * wide mss)) := by
  refine ⟨h.1, ?_, fun k hk => ?_⟩
  · unfold sgf.rows; rw [make.len_rowsOf]; simp
  · unfold sgf.rows at hk ⊢
    rw [make.len_rowsOf] at hk
    have hb := el_bd h hk
    have e : (make.rowsOf (sgf.N mss) (mss.length * wide mss))[k]'(by rw [make.len_rowsOf]; exact hk) = make.quad (sgf.N mss) k := by simp [make.rowsOf]
    rw [e]
    refine ⟨rfl, fun j hj => ?_⟩
    have hj4 : j < 4 := hj
    have a0 : sgf.N mss k 0 = sgf.el mss k := by simp [sgf.N]
    have a1 : sgf.N mss k 1 = - sgf.el mss k := by simp [sgf.N]
    have a2 : sgf.N mss k 2 = - sgf.el mss k := by simp [sgf.N]
    have a3 : sgf.N mss k 3 = sgf.el mss k := by simp [sgf.N]
    match j, hj4 with
    | 0, _ => show -99 ≤ sgf.N mss k 0 ∧ sgf.N mss k 0 ≤ 99; omega
    | 1, _ => show -99 ≤ sgf.N mss k 1 ∧ sgf.N mss k 1 ≤ 99; omega
    | 2, _ => show -99 ≤ sgf.N mss k 2 ∧ sgf.N mss k 2 ≤ 99; omega
    | 3, _ => show -99 ≤ sgf.N mss k 3 ∧ sgf.N mss k 3 ≤ 99; omega


theorem quiet_0 {P : Program} {f : FuncId} {args : Array Value} {w : World} {x : Nat} {v : Value} (h : Calls P f args (w.drewN x) fun e w' => e = .returned v ∧ ∃ m, w' = (w.drewN x).drewN m) :
    Calls P f args (w.drewN x) fun e w'' => e = .returned v ∧ ∃ n, w'' = w.drewN n :=
  h.mono fun _ _ ⟨he, m, hm⟩ => ⟨he, x + m, by rw [hm, ints.drewN_drewN]⟩
theorem held5 {w w' : World} {p1 p2 p3 p4 p5 : Addr} {u1 u2 u3 u4 u5 : Value} (h1 : w.cell? p1 = some u1) (h2 : w.cell? p2 = some u2) (h3 : w.cell? p3 = some u3) (h4 : w.cell? p4 = some u4) (h5 : w.cell? p5 = some u5) (hb : Below w.heap.size w w') :
    w'.cell? p1 = some u1 ∧ w'.cell? p2 = some u2 ∧ w'.cell? p3 = some u3 ∧ w'.cell? p4 = some u4 ∧ w'.cell? p5 = some u5 ∧ Below w.heap.size w w' :=
  ⟨below_cell hb _ _ h1, below_cell hb _ _ h2, below_cell hb _ _ h3, below_cell hb _ _ h4, below_cell hb _ _ h5, hb⟩


set_option maxRecDepth 100000 in
set_option maxHeartbeats 8000000 in
theorem spec_any (vm : Value) (mss : List (List Int)) (x y wh : Int) (v : Value) (xss : List (List Int)) (w : World) (hm : IRows w vm mss) (h : IRows w v xss) (hn : total xss ≤ 1048576) :
    Calls Try.prog 46 #[vm, .agg #[.int .i64 x, .int .i64 y, .int .i64 wh, v]] w fun e w' => e = .returned (.tuple #[.int .i64 (res x y wh mss xss).1, .bool (res x y wh mss xss).2]) ∧ Below w.heap.size w w' := by
  obtain ⟨va, vn, vc, rfl⟩ := hm.shape
  obtain ⟨ba, bn, bc, rfl⟩ := h.shape
  have H := Lib.hid h
  have HM := Lib.hid hm
  have B0 := Lib.hid (below_al (Below.refl w.heap.size w) (.cells #[.int .i64 x, .int .i64 y, .int .i64 wh, .slice ba bn bc] 42))
  have K0 := Lib.hid (Blk.new w 42 #[.int .i64 x, .int .i64 y, .int .i64 wh, .slice ba bn bc])
  have HB0 := Lib.hid (fun (W : World) (hW : Below (w.alloc (.cells #[.int .i64 x, .int .i64 y, .int .i64 wh, .slice ba bn bc] 42)).heap.size (w.alloc (.cells #[.int .i64 x, .int .i64 y, .int .i64 wh, .slice ba bn bc] 42)) W) => val.spec_any x y wh _ xss W (h.below (below_tr B0.out hW)) hn)
  have HG0 := Lib.hid (fun (W : World) (hW : Below (w.alloc (.cells #[.int .i64 x, .int .i64 y, .int .i64 wh, .slice ba bn bc] 42)).heap.size (w.alloc (.cells #[.int .i64 x, .int .i64 y, .int .i64 wh, .slice ba bn bc] 42)) W) => calls_below_drew (sgn.spec_good _ mss W (hm.below (below_tr B0.out hW))))
  have HG1 := Lib.hid (fun (W : World) (hW : Below (w.alloc (.cells #[.int .i64 x, .int .i64 y, .int .i64 wh, .slice ba bn bc] 42)).heap.size (w.alloc (.cells #[.int .i64 x, .int .i64 y, .int .i64 wh, .slice ba bn bc] 42)) W) => sgn.spec_good _ mss W (hm.below (below_tr B0.out hW)))
  by_cases hok : okSign mss
  · have HG := HG0
    rw [signB_yes hok] at HG
    clear HG1
    clear HG0
    obtain ⟨d, q, cap, hv, ⟨a0, c0', g0⟩, _⟩ := sgn.cell0 hok hm
    injection hv with e1 e2 e3
    subst e1
    subst e2
    subst e3
    have hkz : (0 : Int) < (mss.length : Int) := by have := sgn.pos hok; omega
    have hpos0 : 0 < mss.length := sgn.pos hok
    have HOK := Lib.hid hok
    have g0' := below_cell B0.out _ _ g0
    obtain ⟨c0, c1, c2, c3, c4⟩ := four_cells K0.out
    by_cases hbx : okBox x y wh xss
    · have HB := HB0
      rw [boxB_yes hbx] at HB
      clear HB0
      have HBX := Lib.hid hbx
      by_cases hx : x = (mss.length : Int)
      · by_cases hy : y = ((wide mss : Nat) : Int)
        · rw [res_yes ⟨hok, hbx, hx, hy⟩]
          have HAL : Hid (worth.all x y wh (sgf.rows mss (mss.length * wide mss)) xss) := Lib.hid ⟨hbx, by rw [hx, hy]; exact fun_ok hok⟩
          have d1 : (x != (mss.length : Int)) = false := by simp [hx]
          have d2 : (y != ((wide mss : Nat) : Int)) = false := by simp [hy]
          have HF := Lib.hid (fun (W : World) (hW : Below (w.alloc (.cells #[.int .i64 x, .int .i64 y, .int .i64 wh, .slice ba bn bc] 42)).heap.size (w.alloc (.cells #[.int .i64 x, .int .i64 y, .int .i64 wh, .slice ba bn bc] 42)) W) => sgf.l5fun _ mss W (HM.out.below (below_tr B0.out hW)) HOK.out)
          have HW := Lib.hid (fun (W : World) (f : Value) (hW : Below (w.alloc (.cells #[.int .i64 x, .int .i64 y, .int .i64 wh, .slice ba bn bc] 42)).heap.size (w.alloc (.cells #[.int .i64 x, .int .i64 y, .int .i64 wh, .slice ba bn bc] 42)) W) (hf : IRows W f (sgf.rows mss (mss.length * wide mss))) => worth.l2worth x y wh f _ (sgf.rows mss (mss.length * wide mss)) xss W hf (H.out.below (below_tr B0.out hW)) HAL.out)
          clear hok hbx hx hy hm h
          generalize mss.length = M at *
          go_enter Try.func46, Try.ntmps46
          go_wp2_with fail
          go_region_held3 (fun w' => w'.cell? ⟨w.heap.size, 0, none⟩ = some (.int .i64 x) ∧ w'.cell? ⟨w.heap.size, 1, none⟩ = some (.int .i64 y) ∧ w'.cell? ⟨w.heap.size, 2, none⟩ = some (.int .i64 wh) ∧ w'.cell? ⟨w.heap.size, 3, none⟩ = some (.slice ba bn bc) ∧ w'.cell? ⟨d, q, none⟩ = some (.slice a0 (wide mss : Nat) c0') ∧ Below (w.alloc (.cells #[.int .i64 x, .int .i64 y, .int .i64 wh, .slice ba bn bc] 42)).heap.size (w.alloc (.cells #[.int .i64 x, .int .i64 y, .int .i64 wh, .slice ba bn bc] 42)) w')
            (((with_reducible refine held5 c0 c1 c2 c3 g0' ?_); (repeat (first | (with_reducible exact Below.refl _ _) | (with_reducible refine below_dr ?_) | (with_reducible refine below_tr ?_ (by assumption))))))
            (first | (go_at_call 85; (with_reducible refine (HG.out _ ?_).mono ?_); (repeat (first | (with_reducible exact Below.refl _ _) | (with_reducible refine below_dr ?_) | (with_reducible refine below_tr ?_ (by assumption)))); rintro e wq1 ⟨rfl, hq1⟩) | (go_at_call 82; (with_reducible refine (HB.out _ ?_).mono ?_); (repeat (first | (with_reducible exact Below.refl _ _) | (with_reducible refine below_dr ?_) | (with_reducible refine below_tr ?_ (by assumption)))); rintro e wq2 ⟨rfl, hq2⟩))
          have hbt : Below (w.alloc (.cells #[.int .i64 x, .int .i64 y, .int .i64 wh, .slice ba bn bc] 42)).heap.size (w.alloc (.cells #[.int .i64 x, .int .i64 y, .int .i64 wh, .slice ba bn bc] 42)) wq2 := by
            repeat (first | (with_reducible exact Below.refl _ _) | (with_reducible refine below_dr ?_) | (with_reducible refine below_tr ?_ (by assumption)))
          have hbt0 := Lib.hid hbt
          have B2 := Lib.hid (below_tr B0.out hbt)
          have K2 := Lib.hid (K0.out.below hbt)
          clear hbt hq1 hq2 c0 c1 c2 c3 c4 g0 g0' HG HB
          obtain ⟨c0, c1, c2, c3, c4⟩ := four_cells K2.out
          go_wp2_with fail
          go_region_held3 (fun w' => w'.cell? ⟨w.heap.size, 0, none⟩ = some (.int .i64 x) ∧ w'.cell? ⟨w.heap.size, 1, none⟩ = some (.int .i64 y) ∧ w'.cell? ⟨w.heap.size, 2, none⟩ = some (.int .i64 wh) ∧ w'.cell? ⟨w.heap.size, 3, none⟩ = some (.slice ba bn bc) ∧ Below wq2.heap.size wq2 w')
            (((with_reducible refine held4 c0 c1 c2 c3 ?_); (repeat (first | (with_reducible exact Below.refl _ _) | (with_reducible refine below_dr ?_) | (with_reducible refine below_tr ?_ (by assumption))))))
            (first
              | (go_at_call 87; (with_reducible refine (HF.out _ (below_tr hbt0.out ?_)).mono ?_); (repeat (first | (with_reducible exact Below.refl _ _) | (with_reducible refine below_dr ?_) | (with_reducible refine below_tr ?_ (by assumption)))); rintro e wq3 ⟨f, rfl, hf, hq3⟩)
              | (go_at_call 89; (with_reducible refine (HW.out _ _ (below_tr hbt0.out ?_) ?_).mono ?_); (repeat (first | (with_reducible exact Below.refl _ _) | (with_reducible refine below_dr ?_) | (with_reducible refine below_tr ?_ (by assumption)))); (exact hf.rows); rintro e wq4 ⟨rfl, hq4⟩))
          have hbt : Below wq2.heap.size wq2 wq4 := by
            repeat (first | (with_reducible exact Below.refl _ _) | (with_reducible refine below_dr ?_) | (with_reducible refine below_tr ?_ (by assumption)))
          have B3 := Lib.hid (below_tr B2.out hbt)
          clear hbt hq3 hq4 hf c0 c1 c2 c3 c4
          go_wp2_with fail
          go_ret2
          exact ⟨rfl, B3.out⟩
        · skip
          rw [res_no (fun h => hy h.2.2.2)]
          have d1 : (x != (mss.length : Int)) = false := by simp [hx]
          have d2 : (y != ((wide mss : Nat) : Int)) = true := by simp [hy]
          clear hok hbx hx hy hm h
          generalize mss.length = M at *
          go_enter Try.func46, Try.ntmps46
          go_wp2_with fail
          go_region_held3 (fun w' => w'.cell? ⟨w.heap.size, 0, none⟩ = some (.int .i64 x) ∧ w'.cell? ⟨w.heap.size, 1, none⟩ = some (.int .i64 y) ∧ w'.cell? ⟨w.heap.size, 2, none⟩ = some (.int .i64 wh) ∧ w'.cell? ⟨w.heap.size, 3, none⟩ = some (.slice ba bn bc) ∧ w'.cell? ⟨d, q, none⟩ = some (.slice a0 (wide mss : Nat) c0') ∧ Below (w.alloc (.cells #[.int .i64 x, .int .i64 y, .int .i64 wh, .slice ba bn bc] 42)).heap.size (w.alloc (.cells #[.int .i64 x, .int .i64 y, .int .i64 wh, .slice ba bn bc] 42)) w')
            (((with_reducible refine held5 c0 c1 c2 c3 g0' ?_); (repeat (first | (with_reducible exact Below.refl _ _) | (with_reducible refine below_dr ?_) | (with_reducible refine below_tr ?_ (by assumption))))))
            (first | (go_at_call 85; (with_reducible refine (HG.out _ ?_).mono ?_); (repeat (first | (with_reducible exact Below.refl _ _) | (with_reducible refine below_dr ?_) | (with_reducible refine below_tr ?_ (by assumption)))); rintro e wq1 ⟨rfl, hq1⟩) | (go_at_call 82; (with_reducible refine (HB.out _ ?_).mono ?_); (repeat (first | (with_reducible exact Below.refl _ _) | (with_reducible refine below_dr ?_) | (with_reducible refine below_tr ?_ (by assumption)))); rintro e wq2 ⟨rfl, hq2⟩))
          have hbt : Below (w.alloc (.cells #[.int .i64 x, .int .i64 y, .int .i64 wh, .slice ba bn bc] 42)).heap.size (w.alloc (.cells #[.int .i64 x, .int .i64 y, .int .i64 wh, .slice ba bn bc] 42)) wq2 := by
            repeat (first | (with_reducible exact Below.refl _ _) | (with_reducible refine below_dr ?_) | (with_reducible refine below_tr ?_ (by assumption)))
          have B2 := Lib.hid (below_tr B0.out hbt)
          clear hbt hq1 hq2
          go_wp2_with fail
          go_ret2
          exact ⟨rfl, by repeat (first | exact B2.out | refine below_dr ?_)⟩
      · skip
        rw [res_no (fun h => hx h.2.2.1)]
        have d1 : (x != (mss.length : Int)) = true := by simp [hx]
        clear hok hbx hx hm h
        generalize mss.length = M at *
        go_enter Try.func46, Try.ntmps46
        go_wp2_with fail
        first | (go_region_with (first | (go_at_call 85; (with_reducible refine (HG.out _ ?_).mono ?_); (repeat (first | (with_reducible exact Below.refl _ _) | (with_reducible refine below_dr ?_) | (with_reducible refine below_tr ?_ (by assumption)))); rintro e wq1 ⟨rfl, hq1⟩; (have hb3 : Below (w.alloc (.cells #[.int .i64 x, .int .i64 y, .int .i64 wh, .slice ba bn bc] 42)).heap.size (w.alloc (.cells #[.int .i64 x, .int .i64 y, .int .i64 wh, .slice ba bn bc] 42)) wq1 := by repeat (first | (with_reducible exact Below.refl _ _) | (with_reducible refine below_dr ?_) | (with_reducible refine below_tr ?_ (by assumption)))); (obtain ⟨k0, k1, k2, k3, k4⟩ := four_cells (K0.out.below hb3)); clear hb3) | (go_at_call 82; (with_reducible refine (HB.out _ ?_).mono ?_); (repeat (first | (with_reducible exact Below.refl _ _) | (with_reducible refine below_dr ?_) | (with_reducible refine below_tr ?_ (by assumption)))); rintro e wq2 ⟨rfl, hq2⟩; clear k0 k1 k2 k3 k4; (have hb3 : Below (w.alloc (.cells #[.int .i64 x, .int .i64 y, .int .i64 wh, .slice ba bn bc] 42)).heap.size (w.alloc (.cells #[.int .i64 x, .int .i64 y, .int .i64 wh, .slice ba bn bc] 42)) wq2 := by repeat (first | (with_reducible exact Below.refl _ _) | (with_reducible refine below_dr ?_) | (with_reducible refine below_tr ?_ (by assumption)))); (obtain ⟨k0, k1, k2, k3, k4⟩ := four_cells (K0.out.below hb3)); clear hb3))) | fail
        all_goals
          have hbt : Below (w.alloc (.cells #[.int .i64 x, .int .i64 y, .int .i64 wh, .slice ba bn bc] 42)).heap.size (w.alloc (.cells #[.int .i64 x, .int .i64 y, .int .i64 wh, .slice ba bn bc] 42)) wq2 := by
            repeat (first | (with_reducible exact Below.refl _ _) | (with_reducible refine below_dr ?_) | (with_reducible refine below_tr ?_ (by assumption)))
          have B2 := Lib.hid (below_tr B0.out hbt)
          clear hbt hq1 hq2
          go_wp2_with fail
          go_ret2
          exact ⟨rfl, by repeat (first | exact B2.out | refine below_dr ?_)⟩
    · have HB := HB0
      rw [boxB_no hbx] at HB
      clear HB0
      rw [res_no (fun h => hbx h.2.1)]
      clear hok hbx hm h
      generalize mss.length = M at *
      go_enter Try.func46, Try.ntmps46
      go_wp2_with fail
      first | (go_region_with (first | (go_at_call 85; (with_reducible refine (HG.out _ ?_).mono ?_); (repeat (first | (with_reducible exact Below.refl _ _) | (with_reducible refine below_dr ?_) | (with_reducible refine below_tr ?_ (by assumption)))); rintro e wq1 ⟨rfl, hq1⟩; (have hb3 : Below (w.alloc (.cells #[.int .i64 x, .int .i64 y, .int .i64 wh, .slice ba bn bc] 42)).heap.size (w.alloc (.cells #[.int .i64 x, .int .i64 y, .int .i64 wh, .slice ba bn bc] 42)) wq1 := by repeat (first | (with_reducible exact Below.refl _ _) | (with_reducible refine below_dr ?_) | (with_reducible refine below_tr ?_ (by assumption)))); (obtain ⟨k0, k1, k2, k3, k4⟩ := four_cells (K0.out.below hb3)); clear hb3) | (go_at_call 82; (with_reducible refine (HB.out _ ?_).mono ?_); (repeat (first | (with_reducible exact Below.refl _ _) | (with_reducible refine below_dr ?_) | (with_reducible refine below_tr ?_ (by assumption)))); rintro e wq2 ⟨rfl, hq2⟩; clear k0 k1 k2 k3 k4; (have hb3 : Below (w.alloc (.cells #[.int .i64 x, .int .i64 y, .int .i64 wh, .slice ba bn bc] 42)).heap.size (w.alloc (.cells #[.int .i64 x, .int .i64 y, .int .i64 wh, .slice ba bn bc] 42)) wq2 := by repeat (first | (with_reducible exact Below.refl _ _) | (with_reducible refine below_dr ?_) | (with_reducible refine below_tr ?_ (by assumption)))); (obtain ⟨k0, k1, k2, k3, k4⟩ := four_cells (K0.out.below hb3)); clear hb3))) | fail
      all_goals
        have hbt : Below (w.alloc (.cells #[.int .i64 x, .int .i64 y, .int .i64 wh, .slice ba bn bc] 42)).heap.size (w.alloc (.cells #[.int .i64 x, .int .i64 y, .int .i64 wh, .slice ba bn bc] 42)) wq2 := by
          repeat (first | (with_reducible exact Below.refl _ _) | (with_reducible refine below_dr ?_) | (with_reducible refine below_tr ?_ (by assumption)))
        have B2 := Lib.hid (below_tr B0.out hbt)
        clear hbt hq1 hq2
        go_wp2_with fail
        go_ret2
        exact ⟨rfl, by repeat (first | exact B2.out | refine below_dr ?_)⟩
  · have HG := HG1
    rw [signB_no hok] at HG
    clear HG0 HG1
    obtain ⟨c0, c1, c2, c3, c4⟩ := four_cells K0.out
    rw [res_no (fun h => hok h.1)]
    clear hok hm h HB0
    go_enter Try.func46, Try.ntmps46
    go_wp2_with fail
    go_quiet ((go_at_call 85; go_must (exact quiet_0 (HG.out _ (below_drewN (Below.refl _ _) _)))))
    go_wp2_with fail
    go_ret2
    exact ⟨rfl, below_drewN B0.out _⟩



set_option maxRecDepth 100000 in
set_option maxHeartbeats 4000000 in
theorem impl_any (vm : Value) (mss : List (List Int)) (x y wh : Int) (v : Value) (xss : List (List Int)) (w : World) (hm : IRows w vm mss) (h : IRows w v xss) (hn : total xss ≤ 1048576) :
    Calls Try.prog 47 #[vm, .agg #[.int .i64 x, .int .i64 y, .int .i64 wh, v]] w fun e w' => e = .returned (.tuple #[.int .i64 (res x y wh mss xss).1, .bool (res x y wh mss xss).2]) ∧ Below w.heap.size w w' := by
  obtain ⟨va, vn, vc, rfl⟩ := hm.shape
  obtain ⟨ba, bn, bc, rfl⟩ := h.shape
  have H := Lib.hid h
  have HM := Lib.hid hm
  have B0 := Lib.hid (below_al (Below.refl w.heap.size w) (.cells #[.int .i64 x, .int .i64 y, .int .i64 wh, .slice ba bn bc] 42))
  have K0 := Lib.hid (Blk.new w 42 #[.int .i64 x, .int .i64 y, .int .i64 wh, .slice ba bn bc])
  have HC := Lib.hid (fun o => sgf.impl_any _ mss (w.alloc o) (hm.below (below_al (Below.refl _ _) o)))
  by_cases hok : okSign mss
  · have HE := Lib.hid (sgf.res_yes hok)
    obtain ⟨d, q, cap, hv, ⟨a0, c0', g0⟩, _⟩ := sgn.cell0 hok hm
    injection hv with e1 e2 e3
    subst e1
    subst e2
    subst e3
    have hkz : (0 : Int) < (mss.length : Int) := by have := sgn.pos hok; omega
    have hpos0 : 0 < mss.length := sgn.pos hok
    have HOK := Lib.hid hok
    by_cases hx : x = (mss.length : Int)
    · by_cases hy : y = ((wide mss : Nat) : Int)
      · have d1 : (x != (mss.length : Int)) = false := by simp [hx]
        have d2 : (y != ((wide mss : Nat) : Int)) = false := by simp [hy]
        have HR : Hid (res x y wh mss xss = worth.res x y wh (sgf.rows mss (mss.length * wide mss)) xss) := Lib.hid (by
          by_cases hbx : okBox x y wh xss
          · rw [res_yes ⟨hok, hbx, hx, hy⟩, worth.res_yes ⟨hbx, by rw [hx, hy]; exact fun_ok hok⟩]
          · rw [res_no (fun h => hbx h.2.1), worth.res_no (fun h => hbx h.1)])
        rw [HR.out]
        have HT : Hid (total (sgf.rows mss (mss.length * wide mss)) ≤ 1048576) := Lib.hid (make.total_rowsOf _ _ (sgf.mul9 hok))
        clear hok hx hy hm h HR
        go_enter Try.func47, Try.ntmps47
        go_wp2_with fail
        refine (HC.out _).mono ?_
        rintro e w1 ⟨f, rfl, hf, hb⟩
        rw [HE.out]
        obtain ⟨fa, fn, fc, rfl⟩ := hf.rows.shape
        have B1 := Lib.hid (below_tr (below_al (Below.refl w.heap.size w) _) hb)
        have K1 := Lib.hid (K0.out.below hb)
        obtain ⟨c0, c1, c2, c3, c4⟩ := four_cells K1.out
        have HF1 := hf.rows
        rw [HE.out] at HF1
        have HF := Lib.hid HF1
        clear HF1
        have g0' := below_cell B1.out _ _ g0
        clear hf hb HC K0 g0
        go_wp2_with fail
        go_quiet (fail)
        go_wp2_with fail
        refine (worth.impl_any x y wh _ _ (sgf.rows mss (mss.length * wide mss)) xss _ (HF.out.below ?_) (H.out.below (below_tr B1.out ?_)) HT.out hn).mono ?_
        · repeat (first | exact Below.refl _ _ | refine below_drewN ?_ _ | refine below_dr ?_)
        · repeat (first | exact Below.refl _ _ | refine below_drewN ?_ _ | refine below_dr ?_)
        rintro e w2 ⟨rfl, hb⟩
        have B2 := Lib.hid (below_tr (below_drewN B1.out _) hb)
        clear hb c0 c1 c2 c3 c4
        go_wp2_with fail
        go_ret2
        exact ⟨rfl, B2.out⟩
      · skip
        rw [res_no (fun h => hy h.2.2.2)]
        have d1 : (x != (mss.length : Int)) = false := by simp [hx]
        have d2 : (y != ((wide mss : Nat) : Int)) = true := by simp [hy]
        clear hok hx hy hm h
        go_enter Try.func47, Try.ntmps47
        go_wp2_with fail
        refine (HC.out _).mono ?_
        rintro e w1 ⟨f, rfl, hf, hb⟩
        rw [HE.out]
        obtain ⟨fa, fn, fc, rfl⟩ := hf.rows.shape
        have B1 := Lib.hid (below_tr (below_al (Below.refl w.heap.size w) _) hb)
        have K1 := Lib.hid (K0.out.below hb)
        obtain ⟨c0, c1, c2, c3, c4⟩ := four_cells K1.out
        have HF1 := hf.rows
        rw [HE.out] at HF1
        have HF := Lib.hid HF1
        clear HF1
        have g0' := below_cell B1.out _ _ g0
        clear hf hb HC K0 g0
        go_wp2_with fail
        go_quiet (fail)
        go_wp2_with fail
        go_ret2
        exact ⟨rfl, below_drewN B1.out _⟩
    · skip
      rw [res_no (fun h => hx h.2.2.1)]
      have d1 : (x != (mss.length : Int)) = true := by simp [hx]
      clear hok hx hm h
      go_enter Try.func47, Try.ntmps47
      go_wp2_with fail
      refine (HC.out _).mono ?_
      rintro e w1 ⟨f, rfl, hf, hb⟩
      rw [HE.out]
      obtain ⟨fa, fn, fc, rfl⟩ := hf.rows.shape
      have B1 := Lib.hid (below_tr (below_al (Below.refl w.heap.size w) _) hb)
      have K1 := Lib.hid (K0.out.below hb)
      obtain ⟨c0, c1, c2, c3, c4⟩ := four_cells K1.out
      have HF1 := hf.rows
      rw [HE.out] at HF1
      have HF := Lib.hid HF1
      clear HF1
      have g0' := below_cell B1.out _ _ g0
      clear hf hb HC K0 g0
      go_wp2_with fail
      go_quiet (fail)
      go_wp2_with fail
      go_ret2
      exact ⟨rfl, below_drewN B1.out _⟩
  · have HE := Lib.hid (sgf.res_no hok)
    rw [res_no (fun h => hok h.1)]
    clear hok hm h
    go_enter Try.func47, Try.ntmps47
    go_wp2_with fail
    refine (HC.out _).mono ?_
    rintro e w1 ⟨f, rfl, hf, hb⟩
    rw [HE.out]
    obtain ⟨fa, fn, fc, rfl⟩ := hf.rows.shape
    have B1 := Lib.hid (below_tr (below_al (Below.refl w.heap.size w) _) hb)
    have K1 := Lib.hid (K0.out.below hb)
    obtain ⟨c0, c1, c2, c3, c4⟩ := four_cells K1.out
    have HF1 := hf.rows
    rw [HE.out] at HF1
    have HF := Lib.hid HF1
    clear HF1
    clear hf hb HC K0
    go_wp2_with fail
    go_quiet (fail)
    go_wp2_with fail
    go_ret2
    exact ⟨rfl, below_drewN B1.out _⟩


end Go.Proofs.Ytfkdhdiacelcjaa.sgw
