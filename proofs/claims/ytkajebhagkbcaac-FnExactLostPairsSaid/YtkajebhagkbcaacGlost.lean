/- LostPairs of both sides. -/
import Derived.Test.YtkajebhagkbcaacGplay
import Derived.Test.YtkajebhagkbcaacMk
namespace Go.Proofs.Ytkajebhagkbcaac.glost
open Go.RowKit Go.Deep Go.Proofs.Ytkajebhagkbcaac.base
open Go.Proofs.Ytkajebhagkbcaac.ints (ret_int infoInt)
open Go.Proofs.Ytkajebhagkbcaac.rws (total)
open Go.Proofs.Ytkajebhagkbcaac.val (okSizes ret_b)
open Go.Proofs.Ytkajebhagkbcaac.gval (okGame gameB gameB_yes gameB_no)
open Go.Proofs.Ytkajebhagkbcaac.play (within withinB withinB_yes withinB_no)
open Go.Proofs.Ytkajebhagkbcaac.gplay (plB plB_yes plB_no)
open Go.Proofs.Ytkajebhagkbcaac.gwon (won wt wt_bd won_bd won_lt at_ltw wt_get)
open Go.Proofs.Ytkajebhagkbcaac.gscore (at_cast)
open Go.Proofs.Ytkajebhagkbcaac.row (at_ idx_lt)

def lostB (X Y : Nat) (ws : List Int) (xss : List (List Int)) (p : List Int) (t : Nat) : Bool := decide (0 < wt ws t ∧ gscore.term X Y ws xss p t = 0)
def upto (X Y : Nat) (ws : List Int) (xss : List (List Int)) (p : List Int) (n : Nat) : List Int := ((List.range n).filter (lostB X Y ws xss p)).map (fun t : Nat => (t : Int))
theorem upto_yes {X Y : Nat} {ws : List Int} {xss : List (List Int)} {p : List Int} {n : Nat} (h : lostB X Y ws xss p n = true) : upto X Y ws xss p (n + 1) = upto X Y ws xss p n ++ [(n : Int)] := by
  unfold upto; rw [List.range_succ, List.filter_append]; simp [h]
theorem upto_no {X Y : Nat} {ws : List Int} {xss : List (List Int)} {p : List Int} {n : Nat} (h : lostB X Y ws xss p n = false) : upto X Y ws xss p (n + 1) = upto X Y ws xss p n := by
  unfold upto; rw [List.range_succ, List.filter_append]; simp [h]
theorem len_upto (X Y : Nat) (ws : List Int) (xss : List (List Int)) (p : List Int) (n : Nat) : (upto X Y ws xss p n).length ≤ n := by
  unfold upto; rw [List.length_map]; exact Nat.le_trans (List.length_filter_le _ _) (by simp)
open Classical in
noncomputable def res (x y : Int) (ws : List Int) (xss : List (List Int)) (p : List Int) : List Int × Bool := if okGame x y ws xss ∧ within (x + y) 0 1 p then (upto x.toNat y.toNat ws xss p (x.toNat * y.toNat), true) else ([], false)
theorem res_yes {x y : Int} {ws : List Int} {xss : List (List Int)} {p : List Int} (h : okGame x y ws xss ∧ within (x + y) 0 1 p) : res x y ws xss p = (upto x.toNat y.toNat ws xss p (x.toNat * y.toNat), true) := if_pos h
theorem res_no {x y : Int} {ws : List Int} {xss : List (List Int)} {p : List Int} (h : ¬ (okGame x y ws xss ∧ within (x + y) 0 1 p)) : res x y ws xss p = ([], false) := if_neg h
theorem mul_nat {x y : Int} (h : okSizes x y) : x.toNat * y.toNat ≤ 9 := by
  have := (val.mul_small h).2
  have e : ((x.toNat * y.toNat : Nat) : Int) = x * y := by
    rw [Int.natCast_mul, Int.toNat_of_nonneg (by have := h.1; omega), Int.toNat_of_nonneg (by have := h.2; omega)]
  omega
theorem len_res (x y : Int) (ws : List Int) (xss : List (List Int)) (p : List Int) : (res x y ws xss p).1.length ≤ 1048576 := by
  by_cases h : okGame x y ws xss ∧ within (x + y) 0 1 p
  · rw [res_yes h]
    have := len_upto x.toNat y.toNat ws xss p (x.toNat * y.toNat)
    have := mul_nat h.1.1
    show (upto x.toNat y.toNat ws xss p (x.toNat * y.toNat)).length ≤ 1048576
    omega
  · rw [res_no h]; exact Nat.zero_le _
theorem held7 {w w' : World} {p1 p2 p3 p4 p5 p6 p7 : Addr} {u1 u2 u3 u4 u5 u6 u7 : Value} (h1 : w.cell? p1 = some u1) (h2 : w.cell? p2 = some u2) (h3 : w.cell? p3 = some u3) (h4 : w.cell? p4 = some u4)
    (h5 : w.cell? p5 = some u5) (h6 : w.cell? p6 = some u6) (h7 : w.cell? p7 = some u7) (hb : Below w.heap.size w w') :
    w'.cell? p1 = some u1 ∧ w'.cell? p2 = some u2 ∧ w'.cell? p3 = some u3 ∧ w'.cell? p4 = some u4 ∧ w'.cell? p5 = some u5 ∧ w'.cell? p6 = some u6 ∧ w'.cell? p7 = some u7 ∧ Below w.heap.size w w' :=
  ⟨below_cell hb _ _ h1, below_cell hb _ _ h2, below_cell hb _ _ h3, below_cell hb _ _ h4, below_cell hb _ _ h5, below_cell hb _ _ h6, below_cell hb _ _ h7, hb⟩


set_option maxRecDepth 100000 in
set_option maxHeartbeats 4000000 in
theorem spec_any (x y : Int) (v : Value) (ws : List Int) (u : Value) (xss : List (List Int)) (pv : Value) (p : List Int) (w : World) (h : game.GV w v ws u xss) (hp : Ints w pv p) (hn : ws.length ≤ 1048576) (hm : total xss ≤ 1048576) :
    Calls Try.prog 26 #[.agg #[.int .i64 x, .int .i64 y, v, u], pv] w fun e w' => ∃ u', e = .returned (.tuple #[u', .bool (res x y ws xss p).2]) ∧ Ints w' u' (res x y ws xss p).1 ∧ Below w.heap.size w w' := by
  obtain ⟨i0, hi, hz0, hz1, hz2⟩ := info_parts infoInt
  by_cases hok : okGame x y ws xss ∧ within (x + y) 0 1 p
  · have HE := Lib.hid (plB_yes hok.1 hok.2)
    have hmn := mul_nat hok.1.1
    obtain ⟨X, rfl⟩ : ∃ X : Nat, x = X := ⟨x.toNat, by have := hok.1.1.1; omega⟩
    obtain ⟨Y, rfl⟩ : ∃ Y : Nat, y = Y := ⟨y.toNat, by have := hok.1.1.2; omega⟩
    rw [res_yes hok]
    simp only [Int.toNat_natCast] at hmn ⊢
    obtain ⟨hok, hpl⟩ := hok
    have HW : Hid (∀ (W : World) (a c : Nat) (s t : Int), Below w.heap.size w W → a < X → c < Y → (s = 0 ∨ s = 1) → (t = 0 ∨ t = 1) → Calls Try.prog 63 #[.agg #[.int .i64 (X : Int), .int .i64 (Y : Int), v, u], .int .i64 (a : Int), .int .i64 (c : Int), .int .i64 s, .int .i64 t] W fun e w' => e = .returned (.int .i64 (won ws xss (a * Y + c) s t)) ∧ Below W.heap.size W w') := Lib.hid (fun W a c s t hW ha hc hs ht => by
      have := gwon.l4won X Y a c s t v ws u xss W (h.below hW) hok (by omega) (by omega) (by omega) (by omega) hs ht
      rw [at_cast] at this
      exact this)
    obtain ⟨hX, hY⟩ := hok.1
    have HPLD := Lib.hid (fun o => gplay.l4played X Y v ws u xss pv p (w.alloc o) (h.below (below_al (Below.refl _ _) o)) (hp.below (below_al (Below.refl _ _) o)) hn hm)
    have HPLD2 := Lib.hid (fun o o' => gplay.l4played X Y v ws u xss pv p ((w.alloc o).alloc o') (h.below (below_al (below_al (Below.refl _ _) o) o')) (hp.below (below_al (below_al (Below.refl _ _) o) o')) hn hm)
    obtain ⟨ua, un, uc, rfl⟩ := h.rows.shape
    obtain ⟨WA, wb, wo, wc, rfl, hwcap, hwmax, hWA, hwcell⟩ := h.ints.form
    have hwl : (ws.length : Int) = X * Y := hok.2.1
    have hwl2 : ws.length = X * Y := by exact_mod_cast hwl
    have hX1 := hX.1
    have hY1 := hY.1
    have hXY : 1 * 1 ≤ X * Y := Nat.mul_le_mul (by omega) (by omega)
    obtain rfl := hWA (by omega)
    obtain ⟨P, pb, po, pcap, rfl, hcap, hmax, hA, hc⟩ := hp.form
    have hpl0 : p.length = X + Y := by have := hpl.1; omega
    obtain rfl := hA (by omega)
    have HPC : Hid (∀ k, k < X + Y → w.cell? ⟨pb, po + k, none⟩ = some (.int .i64 (p.getD k 0)) ∧ (p.getD k 0 = 0 ∨ p.getD k 0 = 1)) := Lib.hid (fun k hk => by
      have h1 := hc k (by omega)
      have h2 := hpl.2 k (by omega)
      have e : p.getD k 0 = p[k]'(by omega) := by rw [List.getD_eq_getElem?_getD, List.getElem?_eq_getElem (by omega)]; rfl
      rw [e]
      exact ⟨h1, by omega⟩)
    have HWC : Hid (∀ t, t < X * Y → w.cell? ⟨wb, wo + t, none⟩ = some (.int .i64 (wt ws t))) := Lib.hid (fun t ht => by
      rw [← wt_get (by omega)]; exact hwcell t (by omega))
    have HWN : Hid (ws.length = X * Y) := Lib.hid hwl2
    have K0 := Lib.hid (Blk.new w 28 #[.int .i64 (X : Int), .int .i64 (Y : Int), .slice (some ⟨wb, wo, none⟩) ws.length wc, .slice ua un uc])
    have HPL := Lib.hid hpl0
    have hX2 : (X : Int) ≤ 3 := hX.2
    have hY2 : (Y : Int) ≤ 3 := hY.2
    have HOK := Lib.hid hok
    have HTLT := Lib.hid (fun t a b => won_lt hok t a b)
    clear h hp hok hpl hc hA hmax hcap hX hY hpl0 hwl hwl2 hwcell hWA hwmax hwcap hn hXY
    go_enter Try.func26, Try.ntmps26
    go_wp2_with fail
    refine (HPLD2.out _ _).mono ?_
    rintro e w1 ⟨rfl, hb⟩
    rw [HE.out]
    have B1 := Lib.hid (below_tr (below_al (below_al (Below.refl w.heap.size w) _) _) hb)
    have K1 := Lib.hid ((K0.out.alloc _).below hb)
    have O0 : Hid (w1.ownsRow (w.heap.size + 1) 3 1 (.slice (some ⟨w.heap.size + 1, 0, none⟩) 0 0) 0 (i64s (upto X Y ws xss p (0 * Y)))) := Lib.hid (by
      rw [Nat.zero_mul]
      have := World.ownsRow_made (base := w.heap.size + 1) (e := 3) (size := 1) (w.alloc (.cells #[.int .i64 (X : Int), .int .i64 (Y : Int), .slice (some ⟨wb, wo, none⟩) ws.length wc, .slice ua un uc] 28)) #[] 0 (by simp) (Nat.zero_le _) rfl
      have := app.owns_below this hb
      simpa [i64s, upto] using this)
    clear hb HPLD HPLD2 K0
    obtain ⟨c0, c1, c2, c3, c4⟩ := four_cells K1.out
    go_wp2_with fail
    clear c0 c1 c2 c3 c4
    go_loopw [6, 7] (fun out i wr => ∃ a : Nat, a ≤ X ∧ i = .int .i64 a ∧ ∃ m, Hid (wr.ownsRow (w.heap.size + 1) 3 1 out m (i64s (upto X Y ws xss p (a * Y)))) ∧ Hid (Below w.heap.size w wr) ∧ Hid (Blk wr w.heap.size 28 #[.int .i64 (X : Int), .int .i64 (Y : Int), .slice (some ⟨wb, wo, none⟩) ws.length wc, .slice ua un uc])) (fun _ i _ => X - (intOf i).toNat)
    case atStart => exact ⟨0, Nat.zero_le _, rfl, _, O0, B1, K1⟩
    case round =>
      obtain ⟨a, ha, rfl, m, hO, hB, hK⟩ := hrel
      clear B1 K1 O0
      obtain ⟨wo', rfl⟩ : ∃ wo' : World, wo' = wr := ⟨_, rfl⟩
      obtain ⟨c0, c1, c2, c3, c4⟩ := four_cells hK.out
      by_cases hlt : a < X
      · have hkz : (a : Int) < (X : Int) := by omega
        go_wp2_with fail
        clear c0 c1 c2 c3 c4
        go_loopw [6, 8] (fun out j wi => ∃ c : Nat, c ≤ Y ∧ j = .int .i64 c ∧ ∃ m, Hid (wi.ownsRow (w.heap.size + 1) 3 1 out m (i64s (upto X Y ws xss p (a * Y + c)))) ∧ Hid (Below w.heap.size w wi) ∧ Hid (Blk wi w.heap.size 28 #[.int .i64 (X : Int), .int .i64 (Y : Int), .slice (some ⟨wb, wo, none⟩) ws.length wc, .slice ua un uc])) (fun _ j _ => Y - (intOf j).toNat)
        case atStart => exact ⟨0, Nat.zero_le _, rfl, m, hO, hB, hK⟩
        case round =>
         clear hO hB hK m
         obtain ⟨c, hcY, rfl, m, hO, hB, hK⟩ := hrel
         obtain ⟨wi, rfl⟩ : ∃ wi : World, wi = wr := ⟨_, rfl⟩
         obtain ⟨c0, c1, c2, c3, c4⟩ := four_cells hK.out
         by_cases hlc : c < Y
         · have hkc : (c : Int) < (Y : Int) := by omega
           have ht9 : a * Y + c < X * Y := by
             have h1 : a * Y + c < (a + 1) * Y := by (rw [Nat.add_mul]; omega)
             have h2 : (a + 1) * Y ≤ X * Y := Nat.mul_le_mul_right _ (by omega)
             omega
           obtain rfl : m = (upto X Y ws xss p (a * Y + c)).length := by
             have := hO.out.1
             rw [len_i64s] at this; omega
           have HLE := Lib.hid (Nat.le_trans (len_upto X Y ws xss p (a * Y + c)) (by omega : a * Y + c ≤ 9))
           obtain ⟨f1, t1⟩ := HPC.out a (by omega)
           obtain ⟨f2, t2⟩ := HPC.out (X + c) (by omega)
           have f3 := HWC.out _ ht9
           have f1 := below_cell hB.out _ _ f1
           have f2 := below_cell hB.out _ _ f2
           have f3 := below_cell hB.out _ _ f3
           obtain ⟨d1, d2, d3, d4⟩ := idx_lt HOK.out.1 (i := (a : Int)) (j := (c : Int)) (by omega) hkz (by omega) hkc
           obtain ⟨k1, k2⟩ := row.wrap2 d1 d2 d4 (by have := row.mul9 HOK.out.1; omega)
           have e0 : (a : Int) * (Y : Int) + (c : Int) < (ws.length : Int) := by rw [HWN.out, Int.natCast_mul]; exact d3
           have HCA := Lib.hid (fun W hW => HW.out W a c _ _ hW hlt hlc t1 t2)
           have HTE : Hid (gscore.term X Y ws xss p (a * Y + c) = won ws xss (a * Y + c) (p.getD a 0) (p.getD (X + c) 0)) := Lib.hid (gscore.term_at hlc)
           have HLT := Lib.hid (HTLT.out (a * Y + c) (p.getD a 0) (p.getD (X + c) 0))
           have hpX : (X : Int) + (c : Int) < ((p.length : Nat) : Int) := by have := HPL.out; omega
           have hpa : (a : Int) < ((p.length : Nat) : Int) := by have := HPL.out; omega
           have f2 : wi.cell? ⟨pb, po + ((X : Int) + (c : Int)).toNat, none⟩ = some (.int .i64 (p.getD (X + c) 0)) := by
             rw [show ((X : Int) + (c : Int)).toNat = X + c from by omega]; exact f2
           have f3 : wi.cell? ⟨wb, wo + ((a : Int) * (Y : Int) + (c : Int)).toNat, none⟩ = some (.int .i64 (wt ws (a * Y + c))) := by
             rw [show ((a : Int) * (Y : Int) + (c : Int)).toNat = a * Y + c from by rw [← Int.natCast_mul, ← Int.natCast_add, Int.toNat_natCast]]; exact f3
           clear t1 t2
           generalize p.getD a 0 = s1 at *
           generalize p.getD (X + c) 0 = s2 at *
           generalize hrr : won ws xss (a * Y + c) s1 s2 = r at *
           generalize hzz : wt ws (a * Y + c) = z at *
           have HRR := Lib.hid hrr
           have HZZ := Lib.hid hzz
           have hwr1 : IntKind.i64.wrap ((X : Int) + (c : Int)) = (X : Int) + (c : Int) := IntWalk.i64_in _ (by omega)
           have hwr3 : (0 : Int) ≤ (X : Int) + (c : Int) := by omega
           have HT9 := Lib.hid ht9
           clear hrr hzz ht9
           by_cases hz : 0 < z
           · have dz : decide (0 < z) = true := by simp [hz]
             by_cases hr : r = 0
             · have dr : (r == 0) = true := by simp [hr]
               have HL : Hid (upto X Y ws xss p (a * Y + (c + 1)) = upto X Y ws xss p (a * Y + c) ++ [((a * Y + c : Nat) : Int)]) := Lib.hid (upto_yes (n := a * Y + c) (by unfold lostB; rw [HTE.out, HZZ.out]; simp [hz, hr]))
               clear hz hr
               go_wp2_with fail
               go_region_held3 (fun w' => w'.cell? ⟨w.heap.size, 0, none⟩ = some (.int .i64 (X : Int)) ∧ w'.cell? ⟨w.heap.size, 1, none⟩ = some (.int .i64 (Y : Int)) ∧ w'.cell? ⟨w.heap.size, 2, none⟩ = some (.slice (some ⟨wb, wo, none⟩) ws.length wc) ∧ w'.cell? ⟨w.heap.size, 3, none⟩ = some (.slice ua un uc) ∧ w'.cell? ⟨pb, po + a, none⟩ = some (.int .i64 s1) ∧ w'.cell? ⟨pb, po + ((X : Int) + (c : Int)).toNat, none⟩ = some (.int .i64 s2) ∧ w'.cell? ⟨wb, wo + ((a : Int) * (Y : Int) + (c : Int)).toNat, none⟩ = some (.int .i64 z) ∧ Below wi.heap.size wi w')
                 (((with_reducible refine held7 c0 c1 c2 c3 f1 f2 f3 ?_); repeat (first | (with_reducible exact Below.refl _ _) | (with_reducible refine below_dr ?_) | (with_reducible refine below_tr ?_ (by assumption)))))
                 (first | (go_at_call 63; (with_reducible refine (HCA.out _ (below_tr hB.out ?_)).mono ?_); (repeat (first | (with_reducible exact Below.refl _ _) | (with_reducible refine below_dr ?_) | (with_reducible refine below_tr ?_ (by assumption)))); rintro e wq1 ⟨rfl, hq1⟩))
               have hbt : Below wi.heap.size wi wq1 := by repeat (first | (with_reducible exact Below.refl _ _) | (with_reducible refine below_dr ?_) | (with_reducible refine below_tr ?_ (by assumption)))
               have B2 := Lib.hid (below_tr hB.out hbt)
               have K2 := Lib.hid (hK.out.below hbt)
               have O2 := Lib.hid (app.owns_below hO.out hbt)
               clear hq1 hbt
               clear c0 c1 c2 c3 c4 f1 f2 f3
               obtain ⟨c0, c1, c2, c3, c4⟩ := four_cells K2.out
               have hsz2 := B2.out.size
               go_wp2_with (at_builtin; go_must (refine wpList_append_own _ rfl (.tmp 56) (.tmp 63) 22 rfl (w.heap.size + 1) 3 i0 (.int .i64 0) 1 8 Try.underlying22 hi hz0 hz1 hz2 rfl (by decide) _ _ _ rfl (O2.out.alloc _) ⟨wq1.heap.size, 0, none⟩ 1 1 [.int .i64 ((a : Int) * (Y : Int) + (c : Int))] rfl rfl ?c1 ?c2 ?c3 ?c4 ?c5 ?_))
               case c1 => exact app.one_at _ _ _
               case c2 => intro u hu; simp at hu; subst hu; rfl
               case c3 => have := HLE.out; unfold maxLen; omega
               case c4 => have := HLE.out; omega
               case c5 => simp; omega
               intro v' w3 hown' hgrow _
               have O3 : Hid (w3.ownsRow (w.heap.size + 1) 3 1 v' (upto X Y ws xss p (a * Y + (c + 1))).length (i64s (upto X Y ws xss p (a * Y + (c + 1))))) := Lib.hid (by
                 rw [HL.out, ← app.i64s_snoc, List.length_append]
                 have e : ((a * Y + c : Nat) : Int) = (a : Int) * (Y : Int) + (c : Int) := by simp
                 rw [e]; exact hown')
               have B3 : Hid (Below w.heap.size w w3) := Lib.hid ((below_al B2.out _).grown hgrow (by have := B2.out.size; simp; omega) (fun j hj => by have := (O2.out.lt j hj).1; omega))
               have K3 : Hid (Blk w3 w.heap.size 28 #[.int .i64 (X : Int), .int .i64 (Y : Int), .slice (some ⟨wb, wo, none⟩) ws.length wc, .slice ua un uc]) := Lib.hid ((hgrow.block _ (K2.out.alloc _).lt (fun e => by have := (O2.out.lt _ e.symm).1; omega)).trans (K2.out.alloc _))
               obtain ⟨xa, xl, xc, rfl⟩ := make.shape hown'
               clear hown' hgrow B2 K2 O2 c0 c1 c2 c3 c4 hwr1 hwr3 k1 k2 hsz2
               go_wp2_with fail
               go_roundw
               case rel => exact ⟨c + 1, by omega, by go_num, _, O3, B3, K3⟩
               case measure => simp [intOf]; omega
             · have dr : (r == 0) = false := by simp [hr]
               have HL : Hid (upto X Y ws xss p (a * Y + (c + 1)) = upto X Y ws xss p (a * Y + c)) := Lib.hid (upto_no (n := a * Y + c) (by unfold lostB; rw [HTE.out, HZZ.out]; simp [hr]))
               clear hz hr
               go_wp2_with fail
               go_region_held3 (fun w' => w'.cell? ⟨w.heap.size, 0, none⟩ = some (.int .i64 (X : Int)) ∧ w'.cell? ⟨w.heap.size, 1, none⟩ = some (.int .i64 (Y : Int)) ∧ w'.cell? ⟨w.heap.size, 2, none⟩ = some (.slice (some ⟨wb, wo, none⟩) ws.length wc) ∧ w'.cell? ⟨w.heap.size, 3, none⟩ = some (.slice ua un uc) ∧ w'.cell? ⟨pb, po + a, none⟩ = some (.int .i64 s1) ∧ w'.cell? ⟨pb, po + ((X : Int) + (c : Int)).toNat, none⟩ = some (.int .i64 s2) ∧ w'.cell? ⟨wb, wo + ((a : Int) * (Y : Int) + (c : Int)).toNat, none⟩ = some (.int .i64 z) ∧ Below wi.heap.size wi w')
                 (((with_reducible refine held7 c0 c1 c2 c3 f1 f2 f3 ?_); repeat (first | (with_reducible exact Below.refl _ _) | (with_reducible refine below_dr ?_) | (with_reducible refine below_tr ?_ (by assumption)))))
                 (first | (go_at_call 63; (with_reducible refine (HCA.out _ (below_tr hB.out ?_)).mono ?_); (repeat (first | (with_reducible exact Below.refl _ _) | (with_reducible refine below_dr ?_) | (with_reducible refine below_tr ?_ (by assumption)))); rintro e wq1 ⟨rfl, hq1⟩))
               have hbt : Below wi.heap.size wi wq1 := by repeat (first | (with_reducible exact Below.refl _ _) | (with_reducible refine below_dr ?_) | (with_reducible refine below_tr ?_ (by assumption)))
               have B2 := Lib.hid (below_tr hB.out hbt)
               have K2 := Lib.hid (hK.out.below hbt)
               have O2 := Lib.hid (app.owns_below hO.out hbt)
               clear hq1 hbt
               clear c0 c1 c2 c3 c4 f1 f2 f3 hwr1 hwr3 k1 k2
               go_wp2_with fail
               go_roundw
               case rel => exact ⟨c + 1, by omega, by go_num, _, Lib.hid (by rw [HL.out]; exact O2.out), B2, K2⟩
               case measure => simp [intOf]; omega
           · have dz : decide (0 < z) = false := by simp; omega
             have HL : Hid (upto X Y ws xss p (a * Y + (c + 1)) = upto X Y ws xss p (a * Y + c)) := Lib.hid (upto_no (n := a * Y + c) (by unfold lostB; rw [HTE.out, HZZ.out]; simp [hz]))
             clear hz
             go_wp2_with fail
             go_quiet (fail)
             have B2 := Lib.hid (fun q => below_drewN hB.out q)
             have K2 := Lib.hid (fun q => hK.out.below (below_drewN (Below.refl _ _) q))
             have O2 := Lib.hid (fun q => app.owns_below hO.out (below_drewN (Below.refl _ _) q))
             clear c0 c1 c2 c3 c4 f1 f2 f3 hwr1 hwr3 k1 k2
             go_wp2_with fail
             go_roundw
             case rel => exact ⟨c + 1, by omega, by go_num, _, Lib.hid (by rw [HL.out]; exact O2.out _), Lib.hid (B2.out _), Lib.hid (K2.out _)⟩
             case measure => simp [intOf]; omega
         · have hkc : ¬ (c : Int) < (Y : Int) := by omega
           obtain rfl : c = Y := by omega
           go_wp2_with fail
           go_roundw
           case rel => exact ⟨a + 1, by omega, by go_num, m, Lib.hid (by rw [Nat.add_mul, Nat.one_mul]; exact hO.out), hB, hK⟩
           case measure => simp [intOf]; omega
      · have hkz : ¬ (a : Int) < (X : Int) := by omega
        obtain rfl : a = X := by omega
        obtain rfl : m = (upto a Y ws xss p (a * Y)).length := by
          have := hO.out.1
          rw [len_i64s] at this; omega
        obtain ⟨xa, xl, xc, rfl⟩ := make.shape hO.out
        go_wp2_with fail
        go_ret2
        exact ⟨_, rfl, (app.ints_of_owns hO.out).ints, hB.out⟩
  · have HE := Lib.hid (plB_no hok)
    obtain ⟨va, vn, vc, ua, un, uc, rfl, rfl⟩ := h.shape
    obtain ⟨pa, pn, pc, rfl⟩ := hp.shape
    have HC := Lib.hid (fun (W : World) (hW : Below w.heap.size w W) => gplay.l4played x y _ ws _ xss _ p W (h.below hW) (hp.below hW) hn hm)
    rw [res_no hok]
    clear hok h hp
    go_enter Try.func26, Try.ntmps26
    go_wp2_with fail
    refine (HC.out _ (below_al (below_al (Below.refl _ _) _) _)).mono ?_
    rintro e w1 ⟨rfl, hb⟩
    rw [HE.out]
    have B1 := Lib.hid (below_tr (below_al (below_al (Below.refl w.heap.size w) _) _) hb)
    clear hb
    go_wp2_with fail
    go_ret2
    exact ⟨_, rfl, app.empty _ _ _ (Nat.zero_le _), B1.out⟩



set_option maxRecDepth 100000 in
set_option maxHeartbeats 4000000 in
theorem impl_any (x y : Int) (v : Value) (ws : List Int) (u : Value) (xss : List (List Int)) (pv : Value) (p : List Int) (w : World) (h : game.GV w v ws u xss) (hp : Ints w pv p) (hn : ws.length ≤ 1048576) (hm : total xss ≤ 1048576) :
    Calls Try.prog 27 #[.agg #[.int .i64 x, .int .i64 y, v, u], pv] w fun e w' => ∃ u', e = .returned (.tuple #[u', .bool (res x y ws xss p).2]) ∧ OwnInts w' w.heap.size w'.heap.size u' (res x y ws xss p).1 ∧ Below w.heap.size w w' := by
  obtain ⟨i0, hi, hz0, hz1, hz2⟩ := info_parts infoInt
  by_cases hok : okGame x y ws xss ∧ within (x + y) 0 1 p
  · have HE := Lib.hid (plB_yes hok.1 hok.2)
    have hmn := mul_nat hok.1.1
    obtain ⟨X, rfl⟩ : ∃ X : Nat, x = X := ⟨x.toNat, by have := hok.1.1.1; omega⟩
    obtain ⟨Y, rfl⟩ : ∃ Y : Nat, y = Y := ⟨y.toNat, by have := hok.1.1.2; omega⟩
    rw [res_yes hok]
    simp only [Int.toNat_natCast] at hmn ⊢
    obtain ⟨hok, hpl⟩ := hok
    have HW : Hid (∀ (W : World) (a c : Nat) (s t : Int), Below w.heap.size w W → a < X → c < Y → (s = 0 ∨ s = 1) → (t = 0 ∨ t = 1) → Calls Try.prog 64 #[.agg #[.int .i64 (X : Int), .int .i64 (Y : Int), v, u], .int .i64 (a : Int), .int .i64 (c : Int), .int .i64 s, .int .i64 t] W fun e w' => e = .returned (.int .i64 (won ws xss (a * Y + c) s t)) ∧ Below W.heap.size W w') := Lib.hid (fun W a c s t hW ha hc hs ht => by
      have := gwon.iwon X Y a c s t v ws u xss W (h.below hW) hok (by omega) (by omega) (by omega) (by omega) hs ht
      rw [at_cast] at this
      exact this)
    have HV : Hid (∀ (W : World) (a c : Nat), Below w.heap.size w W → a < X → c < Y → Calls Try.prog 65 #[.agg #[.int .i64 (X : Int), .int .i64 (Y : Int), v, u], .int .i64 (a : Int), .int .i64 (c : Int)] W fun e w' => e = .returned (.int .i64 (wt ws (a * Y + c))) ∧ Below W.heap.size W w') := Lib.hid (fun W a c hW ha hc => by
      have := gwon.weightof X Y a c v ws u xss W (h.below hW) hok (by omega) (by omega) (by omega) (by omega)
      rw [at_cast] at this
      exact this)
    obtain ⟨hX, hY⟩ := hok.1
    have HPLD := Lib.hid (fun o => gplay.isplay X Y v ws u xss pv p (w.alloc o) (h.below (below_al (Below.refl _ _) o)) (hp.below (below_al (Below.refl _ _) o)) hn hm)
    obtain ⟨ua, un, uc, rfl⟩ := h.rows.shape
    obtain ⟨WA, wb, wo, wc, rfl, hwcap, hwmax, hWA, hwcell⟩ := h.ints.form
    have hwl : (ws.length : Int) = X * Y := hok.2.1
    have hwl2 : ws.length = X * Y := by exact_mod_cast hwl
    have hX1 := hX.1
    have hY1 := hY.1
    have hXY : 1 * 1 ≤ X * Y := Nat.mul_le_mul (by omega) (by omega)
    obtain rfl := hWA (by omega)
    obtain ⟨P, pb, po, pcap, rfl, hcap, hmax, hA, hc⟩ := hp.form
    have hpl0 : p.length = X + Y := by have := hpl.1; omega
    obtain rfl := hA (by omega)
    have HPC : Hid (∀ k, k < X + Y → w.cell? ⟨pb, po + k, none⟩ = some (.int .i64 (p.getD k 0)) ∧ (p.getD k 0 = 0 ∨ p.getD k 0 = 1)) := Lib.hid (fun k hk => by
      have h1 := hc k (by omega)
      have h2 := hpl.2 k (by omega)
      have e : p.getD k 0 = p[k]'(by omega) := by rw [List.getD_eq_getElem?_getD, List.getElem?_eq_getElem (by omega)]; rfl
      rw [e]
      exact ⟨h1, by omega⟩)
    have HWC : Hid (∀ t, t < X * Y → w.cell? ⟨wb, wo + t, none⟩ = some (.int .i64 (wt ws t))) := Lib.hid (fun t ht => by
      rw [← wt_get (by omega)]; exact hwcell t (by omega))
    have HWN : Hid (ws.length = X * Y) := Lib.hid hwl2
    have K0 := Lib.hid (Blk.new w 28 #[.int .i64 (X : Int), .int .i64 (Y : Int), .slice (some ⟨wb, wo, none⟩) ws.length wc, .slice ua un uc])
    have HPL := Lib.hid hpl0
    have hX2 : (X : Int) ≤ 3 := hX.2
    have hY2 : (Y : Int) ≤ 3 := hY.2
    have HOK := Lib.hid hok
    have HTLT := Lib.hid (fun t a b => won_lt hok t a b)
    clear h hp hok hpl hc hA hmax hcap hX hY hpl0 hwl hwl2 hwcell hWA hwmax hwcap hn hXY
    go_enter Try.func27, Try.ntmps27
    go_wp2_with fail
    refine (HPLD.out _).mono ?_
    rintro e w1 ⟨rfl, hb⟩
    rw [HE.out]
    have B1 := Lib.hid (below_tr (below_al (Below.refl w.heap.size w) _) hb)
    have K1 := Lib.hid (K0.out.below hb)
    have O0 : Hid (w1.ownsRow (w.heap.size + 1) 3 1 (.slice none 0 0) 0 (i64s (upto X Y ws xss p (0 * Y)))) := Lib.hid (by
      rw [Nat.zero_mul]
      exact ⟨by simp [i64s, upto], .inl ⟨rfl, rfl⟩⟩)
    clear hb HPLD K0
    obtain ⟨c0, c1, c2, c3, c4⟩ := four_cells K1.out
    go_wp2_with fail
    clear c0 c1 c2 c3 c4
    go_loopw [6, 15] (fun out i wr => ∃ a : Nat, a ≤ X ∧ i = .int .i64 a ∧ ∃ m, Hid (wr.ownsRow (w.heap.size + 1) 3 1 out m (i64s (upto X Y ws xss p (a * Y)))) ∧ Hid (Below w.heap.size w wr) ∧ Hid (Blk wr w.heap.size 28 #[.int .i64 (X : Int), .int .i64 (Y : Int), .slice (some ⟨wb, wo, none⟩) ws.length wc, .slice ua un uc])) (fun _ i _ => X - (intOf i).toNat)
    case atStart => exact ⟨0, Nat.zero_le _, rfl, _, O0, B1, K1⟩
    case round =>
      obtain ⟨a, ha, rfl, m, hO, hB, hK⟩ := hrel
      clear B1 K1 O0
      obtain ⟨wo', rfl⟩ : ∃ wo' : World, wo' = wr := ⟨_, rfl⟩
      obtain ⟨c0, c1, c2, c3, c4⟩ := four_cells hK.out
      by_cases hlt : a < X
      · have hkz : (a : Int) < (X : Int) := by omega
        go_wp2_with fail
        clear c0 c1 c2 c3 c4
        go_loopw [6, 20] (fun out j wi => ∃ c : Nat, c ≤ Y ∧ j = .int .i64 c ∧ ∃ m, Hid (wi.ownsRow (w.heap.size + 1) 3 1 out m (i64s (upto X Y ws xss p (a * Y + c)))) ∧ Hid (Below w.heap.size w wi) ∧ Hid (Blk wi w.heap.size 28 #[.int .i64 (X : Int), .int .i64 (Y : Int), .slice (some ⟨wb, wo, none⟩) ws.length wc, .slice ua un uc])) (fun _ j _ => Y - (intOf j).toNat)
        case atStart => exact ⟨0, Nat.zero_le _, rfl, m, hO, hB, hK⟩
        case round =>
         clear hO hB hK m
         obtain ⟨c, hcY, rfl, m, hO, hB, hK⟩ := hrel
         obtain ⟨wi, rfl⟩ : ∃ wi : World, wi = wr := ⟨_, rfl⟩
         obtain ⟨c0, c1, c2, c3, c4⟩ := four_cells hK.out
         by_cases hlc : c < Y
         · have hkc : (c : Int) < (Y : Int) := by omega
           have ht9 : a * Y + c < X * Y := by
             have h1 : a * Y + c < (a + 1) * Y := by (rw [Nat.add_mul]; omega)
             have h2 : (a + 1) * Y ≤ X * Y := Nat.mul_le_mul_right _ (by omega)
             omega
           obtain rfl : m = (upto X Y ws xss p (a * Y + c)).length := by
             have := hO.out.1
             rw [len_i64s] at this; omega
           have HLE := Lib.hid (Nat.le_trans (len_upto X Y ws xss p (a * Y + c)) (by omega : a * Y + c ≤ 9))
           obtain ⟨f1, t1⟩ := HPC.out a (by omega)
           obtain ⟨f2, t2⟩ := HPC.out (X + c) (by omega)
           have f3 := HWC.out _ ht9
           have f1 := below_cell hB.out _ _ f1
           have f2 := below_cell hB.out _ _ f2
           have f3 := below_cell hB.out _ _ f3
           obtain ⟨d1, d2, d3, d4⟩ := idx_lt HOK.out.1 (i := (a : Int)) (j := (c : Int)) (by omega) hkz (by omega) hkc
           obtain ⟨k1, k2⟩ := row.wrap2 d1 d2 d4 (by have := row.mul9 HOK.out.1; omega)
           have e0 : (a : Int) * (Y : Int) + (c : Int) < (ws.length : Int) := by rw [HWN.out, Int.natCast_mul]; exact d3
           have HCA := Lib.hid (fun W hW => HW.out W a c _ _ hW hlt hlc t1 t2)
           have HWT := Lib.hid (fun W hW => HV.out W a c hW hlt hlc)
           have HTE : Hid (gscore.term X Y ws xss p (a * Y + c) = won ws xss (a * Y + c) (p.getD a 0) (p.getD (X + c) 0)) := Lib.hid (gscore.term_at hlc)
           have HLT := Lib.hid (HTLT.out (a * Y + c) (p.getD a 0) (p.getD (X + c) 0))
           have hpX : (X : Int) + (c : Int) < ((p.length : Nat) : Int) := by have := HPL.out; omega
           have hpa : (a : Int) < ((p.length : Nat) : Int) := by have := HPL.out; omega
           have f2 : wi.cell? ⟨pb, po + ((X : Int) + (c : Int)).toNat, none⟩ = some (.int .i64 (p.getD (X + c) 0)) := by
             rw [show ((X : Int) + (c : Int)).toNat = X + c from by omega]; exact f2
           have f3 : wi.cell? ⟨wb, wo + ((a : Int) * (Y : Int) + (c : Int)).toNat, none⟩ = some (.int .i64 (wt ws (a * Y + c))) := by
             rw [show ((a : Int) * (Y : Int) + (c : Int)).toNat = a * Y + c from by rw [← Int.natCast_mul, ← Int.natCast_add, Int.toNat_natCast]]; exact f3
           clear t1 t2
           generalize p.getD a 0 = s1 at *
           generalize p.getD (X + c) 0 = s2 at *
           generalize hrr : won ws xss (a * Y + c) s1 s2 = r at *
           generalize hzz : wt ws (a * Y + c) = z at *
           have HRR := Lib.hid hrr
           have HZZ := Lib.hid hzz
           have hwr1 : IntKind.i64.wrap ((X : Int) + (c : Int)) = (X : Int) + (c : Int) := IntWalk.i64_in _ (by omega)
           have hwr3 : (0 : Int) ≤ (X : Int) + (c : Int) := by omega
           have HT9 := Lib.hid ht9
           clear hrr hzz ht9
           by_cases hr : r < z
           · have dr : decide (r < z) = true := by simp [hr]
             have HL : Hid (upto X Y ws xss p (a * Y + (c + 1)) = upto X Y ws xss p (a * Y + c) ++ [((a * Y + c : Nat) : Int)]) := Lib.hid (upto_yes (n := a * Y + c) (by unfold lostB; rw [HTE.out, HZZ.out]; have := HLT.out.1 hr; simp [this.1, this.2]))
             clear hr
             go_wp2_with fail
             go_region_held3 (fun w' => w'.cell? ⟨w.heap.size, 0, none⟩ = some (.int .i64 (X : Int)) ∧ w'.cell? ⟨w.heap.size, 1, none⟩ = some (.int .i64 (Y : Int)) ∧ w'.cell? ⟨w.heap.size, 2, none⟩ = some (.slice (some ⟨wb, wo, none⟩) ws.length wc) ∧ w'.cell? ⟨w.heap.size, 3, none⟩ = some (.slice ua un uc) ∧ w'.cell? ⟨pb, po + a, none⟩ = some (.int .i64 s1) ∧ w'.cell? ⟨pb, po + ((X : Int) + (c : Int)).toNat, none⟩ = some (.int .i64 s2) ∧ w'.cell? ⟨wb, wo + ((a : Int) * (Y : Int) + (c : Int)).toNat, none⟩ = some (.int .i64 z) ∧ Below wi.heap.size wi w')
               (((with_reducible refine held7 c0 c1 c2 c3 f1 f2 f3 ?_); repeat (first | (with_reducible exact Below.refl _ _) | (with_reducible refine below_dr ?_) | (with_reducible refine below_tr ?_ (by assumption)))))
               (first | (go_at_call 64; (with_reducible refine (HCA.out _ (below_tr hB.out ?_)).mono ?_); (repeat (first | (with_reducible exact Below.refl _ _) | (with_reducible refine below_dr ?_) | (with_reducible refine below_tr ?_ (by assumption)))); rintro e wq1 ⟨rfl, hq1⟩) | (go_at_call 65; (with_reducible refine (HWT.out _ (below_tr hB.out ?_)).mono ?_); (repeat (first | (with_reducible exact Below.refl _ _) | (with_reducible refine below_dr ?_) | (with_reducible refine below_tr ?_ (by assumption)))); rintro e wq2 ⟨rfl, hq2⟩))
             have hbt : Below wi.heap.size wi wq2 := by repeat (first | (with_reducible exact Below.refl _ _) | (with_reducible refine below_dr ?_) | (with_reducible refine below_tr ?_ (by assumption)))
             have B2 := Lib.hid (below_tr hB.out hbt)
             have K2 := Lib.hid (hK.out.below hbt)
             have O2 := Lib.hid (app.owns_below hO.out hbt)
             clear hq1 hq2 hbt
             clear c0 c1 c2 c3 c4 f1 f2 f3
             obtain ⟨c0, c1, c2, c3, c4⟩ := four_cells K2.out
             have hsz2 := B2.out.size
             go_wp2_with (at_builtin; go_must (refine wpList_append_own _ rfl (.tmp 43) (.tmp 50) 22 rfl (w.heap.size + 1) 3 i0 (.int .i64 0) 1 8 Try.underlying22 hi hz0 hz1 hz2 rfl (by decide) _ _ _ rfl (O2.out.alloc _) ⟨wq2.heap.size, 0, none⟩ 1 1 [.int .i64 ((a : Int) * (Y : Int) + (c : Int))] rfl rfl ?c1 ?c2 ?c3 ?c4 ?c5 ?_))
             case c1 => exact app.one_at _ _ _
             case c2 => intro u hu; simp at hu; subst hu; rfl
             case c3 => have := HLE.out; unfold maxLen; omega
             case c4 => have := HLE.out; omega
             case c5 => simp; omega
             intro v' w3 hown' hgrow _
             have O3 : Hid (w3.ownsRow (w.heap.size + 1) 3 1 v' (upto X Y ws xss p (a * Y + (c + 1))).length (i64s (upto X Y ws xss p (a * Y + (c + 1))))) := Lib.hid (by
               rw [HL.out, ← app.i64s_snoc, List.length_append]
               have e : ((a * Y + c : Nat) : Int) = (a : Int) * (Y : Int) + (c : Int) := by simp
               rw [e]; exact hown')
             have B3 : Hid (Below w.heap.size w w3) := Lib.hid ((below_al B2.out _).grown hgrow (by have := B2.out.size; simp; omega) (fun j hj => by have := (O2.out.lt j hj).1; omega))
             have K3 : Hid (Blk w3 w.heap.size 28 #[.int .i64 (X : Int), .int .i64 (Y : Int), .slice (some ⟨wb, wo, none⟩) ws.length wc, .slice ua un uc]) := Lib.hid ((hgrow.block _ (K2.out.alloc _).lt (fun e => by have := (O2.out.lt _ e.symm).1; omega)).trans (K2.out.alloc _))
             obtain ⟨xa, xl, xc, rfl⟩ := make.shape hown'
             clear hown' hgrow B2 K2 O2 c0 c1 c2 c3 c4 hwr1 hwr3 k1 k2 hsz2
             go_wp2_with fail
             go_roundw
             case rel => exact ⟨c + 1, by omega, by go_num, _, O3, B3, K3⟩
             case measure => simp [intOf]; omega
           · have dr : decide (r < z) = false := by simp; omega
             have HL : Hid (upto X Y ws xss p (a * Y + (c + 1)) = upto X Y ws xss p (a * Y + c)) := Lib.hid (upto_no (n := a * Y + c) (by unfold lostB; rw [HTE.out, HZZ.out]; have hn : ¬ (0 < z ∧ r = 0) := fun h => hr (HLT.out.2 h); simp only [decide_eq_false_iff_not]; exact hn))
             clear hr
             go_wp2_with fail
             go_region_held3 (fun w' => w'.cell? ⟨w.heap.size, 0, none⟩ = some (.int .i64 (X : Int)) ∧ w'.cell? ⟨w.heap.size, 1, none⟩ = some (.int .i64 (Y : Int)) ∧ w'.cell? ⟨w.heap.size, 2, none⟩ = some (.slice (some ⟨wb, wo, none⟩) ws.length wc) ∧ w'.cell? ⟨w.heap.size, 3, none⟩ = some (.slice ua un uc) ∧ w'.cell? ⟨pb, po + a, none⟩ = some (.int .i64 s1) ∧ w'.cell? ⟨pb, po + ((X : Int) + (c : Int)).toNat, none⟩ = some (.int .i64 s2) ∧ w'.cell? ⟨wb, wo + ((a : Int) * (Y : Int) + (c : Int)).toNat, none⟩ = some (.int .i64 z) ∧ Below wi.heap.size wi w')
               (((with_reducible refine held7 c0 c1 c2 c3 f1 f2 f3 ?_); repeat (first | (with_reducible exact Below.refl _ _) | (with_reducible refine below_dr ?_) | (with_reducible refine below_tr ?_ (by assumption)))))
               (first | (go_at_call 64; (with_reducible refine (HCA.out _ (below_tr hB.out ?_)).mono ?_); (repeat (first | (with_reducible exact Below.refl _ _) | (with_reducible refine below_dr ?_) | (with_reducible refine below_tr ?_ (by assumption)))); rintro e wq1 ⟨rfl, hq1⟩) | (go_at_call 65; (with_reducible refine (HWT.out _ (below_tr hB.out ?_)).mono ?_); (repeat (first | (with_reducible exact Below.refl _ _) | (with_reducible refine below_dr ?_) | (with_reducible refine below_tr ?_ (by assumption)))); rintro e wq2 ⟨rfl, hq2⟩))
             have hbt : Below wi.heap.size wi wq2 := by repeat (first | (with_reducible exact Below.refl _ _) | (with_reducible refine below_dr ?_) | (with_reducible refine below_tr ?_ (by assumption)))
             have B2 := Lib.hid (below_tr hB.out hbt)
             have K2 := Lib.hid (hK.out.below hbt)
             have O2 := Lib.hid (app.owns_below hO.out hbt)
             clear hq1 hq2 hbt
             clear c0 c1 c2 c3 c4 f1 f2 f3 hwr1 hwr3 k1 k2
             go_wp2_with fail
             go_roundw
             case rel => exact ⟨c + 1, by omega, by go_num, _, Lib.hid (by rw [HL.out]; exact O2.out), B2, K2⟩
             case measure => simp [intOf]; omega
         · have hkc : ¬ (c : Int) < (Y : Int) := by omega
           obtain rfl : c = Y := by omega
           go_wp2_with fail
           go_roundw
           case rel => exact ⟨a + 1, by omega, by go_num, m, Lib.hid (by rw [Nat.add_mul, Nat.one_mul]; exact hO.out), hB, hK⟩
           case measure => simp [intOf]; omega
      · have hkz : ¬ (a : Int) < (X : Int) := by omega
        obtain rfl : a = X := by omega
        obtain rfl : m = (upto a Y ws xss p (a * Y)).length := by
          have := hO.out.1
          rw [len_i64s] at this; omega
        obtain ⟨xa, xl, xc, rfl⟩ := make.shape hO.out
        go_wp2_with fail
        go_ret2
        exact ⟨_, rfl, (app.ints_of_owns hO.out).mono (by omega) (Nat.le_refl _), hB.out⟩
  · have HE := Lib.hid (plB_no hok)
    obtain ⟨va, vn, vc, ua, un, uc, rfl, rfl⟩ := h.shape
    obtain ⟨pa, pn, pc, rfl⟩ := hp.shape
    have HC := Lib.hid (fun (W : World) (hW : Below w.heap.size w W) => gplay.isplay x y _ ws _ xss _ p W (h.below hW) (hp.below hW) hn hm)
    rw [res_no hok]
    clear hok h hp
    go_enter Try.func27, Try.ntmps27
    go_wp2_with fail
    refine (HC.out _ (below_al (Below.refl _ _) _)).mono ?_
    rintro e w1 ⟨rfl, hb⟩
    rw [HE.out]
    have B1 := Lib.hid (below_tr (below_al (Below.refl w.heap.size w) _) hb)
    clear hb
    go_wp2_with fail
    go_ret2
    exact ⟨_, rfl, OwnInts.nil _ _ _, B1.out⟩


end Go.Proofs.Ytkajebhagkbcaac.glost
