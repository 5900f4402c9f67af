/- twinWeight of the program. -/
import Derived.Test.YtimfnhejiiagmaaBvm
import Derived.Test.YtimfnhejiiagmaaBvt
import Derived.Deep.RegionHeld3
namespace Go.Proofs.Ytimfnhejiiagmaa.bvw
open Go.RowKit Go.Deep Go.Proofs.Ytimfnhejiiagmaa.base
open Go.Proofs.Ytimfnhejiiagmaa.ints (ret_int)
open Go.Proofs.Ytimfnhejiiagmaa.gval (okGame)
open Go.Proofs.Ytimfnhejiiagmaa.gwon (won won_bd)
open Go.Proofs.Ytimfnhejiiagmaa.worth (cum)
open Go.Proofs.Ytimfnhejiiagmaa.prs
open Go.Proofs.Ytimfnhejiiagmaa.prt (two_cells)
open Go.Proofs.Ytimfnhejiiagmaa.bvm Go.Proofs.Ytimfnhejiiagmaa.bvt
open Go.Proofs.Ytimfnhejiiagmaa.gscore (at_cast)

/-- two Games, what is asked and what is answered, in memory of the call's own -/
structure Fr (w wr : World) (g h ys bs : Array Value) : Prop where
  below : Below w.heap.size w wr
  one : Blk wr w.heap.size 40 g
  two : Blk wr (w.heap.size + 1) 40 h
  ask : Blk wr (w.heap.size + 1 + 1) 167 ys
  ans : Blk wr (w.heap.size + 1 + 1 + 1) 167 bs
theorem Fr.keep {w wr w' : World} {g h ys bs : Array Value} (k : Fr w wr g h ys bs) (hb : Below wr.heap.size wr w') : Fr w w' g h ys bs := ⟨below_tr k.below hb, k.one.below hb, k.two.below hb, k.ask.below hb, k.ans.below hb⟩
theorem Fr.start (w : World) (g h ys bs : Array Value) : Fr w ((((w.alloc (.cells g 40)).alloc (.cells h 40)).alloc (.cells ys 167)).alloc (.cells bs 167)) g h ys bs :=
  ⟨below_al (below_al (below_al (below_al (Below.refl _ _) _) _) _) _, (((Blk.new _ _ _).alloc _).alloc _).alloc _, by
    have := ((Blk.new (w.alloc (.cells g 40)) 40 h).alloc (.cells ys 167)).alloc (.cells bs 167)
    simpa using this, by
    have := (Blk.new ((w.alloc (.cells g 40)).alloc (.cells h 40)) 167 ys).alloc (.cells bs 167)
    simpa using this, by
    have := Blk.new (((w.alloc (.cells g 40)).alloc (.cells h 40)).alloc (.cells ys 167)) 167 bs
    simpa using this⟩
theorem pairAt {w : World} {A : Option Addr} {n c : Nat} {ps : List (Int × Int)} (hp : Pairs w (.slice A n c) ps) (hn : 0 < ps.length) : ∃ b o, A = some ⟨b, o, none⟩ ∧ n = ps.length ∧ n ≤ c ∧ c ≤ maxLen ∧ ∀ k (h : k < ps.length), w.cell? ⟨b, o + k * 2, none⟩ = some (.int .i64 ps[k].1) ∧ w.cell? ⟨b, o + k * 2 + 1, none⟩ = some (.int .i64 ps[k].2) := by
  obtain ⟨A', b', o', cap', hv, h1, h2, hA', hc⟩ := hp.form
  injection hv with e1 e2 e3
  exact ⟨b', o', by rw [e1, hA' hn], e2, by omega, by omega, hc⟩


set_option maxRecDepth 100000 in
set_option maxHeartbeats 8000000 in
theorem weight (X1 Y1 X2 Y2 : Nat) (v : Value) (ws : List Int) (u : Value) (xss : List (List Int)) (v' : Value) (vs : List Int) (u' : Value) (yss : List (List Int)) (fv : Value) (L : List Int) (q r : Nat) (w : World)
    (h : game.GV w v ws u xss) (h' : game.GV w v' vs u' yss) (hf : Ints w fv L) (hok : okTwo X1 Y1 X2 Y2 ws xss vs yss) (hL : L.length = 2 * (X1 * X2)) (hb : ∀ k, L.getD k 0 = 0 ∨ L.getD k 0 = 1) (hq : q < Y1 * Y2) (hr : r < 4) :
    Calls Try.prog 154 #[.agg #[.int .i64 (X1 : Int), .int .i64 (Y1 : Int), v, u], .agg #[.int .i64 (X2 : Int), .int .i64 (Y2 : Int), v', u'], fv, .agg #[.int .i64 ((q / Y2 : Nat) : Int), .int .i64 ((q % Y2 : Nat) : Int)], .agg #[.int .i64 ((r / 2 : Nat) : Int), .int .i64 ((r % 2 : Nat) : Int)]] w
      fun e w' => e = .returned (.int .i64 (bvm.part Y1 X2 Y2 ws xss vs yss (fun i => L.getD (2 * i) 0) (fun i => L.getD (2 * i + 1) 0) q r (X1 * X2))) ∧ Below w.heap.size w w' := by
  obtain ⟨ok1, ok2, x2, y2, x2', y2'⟩ := hok
  have hX1 : 1 ≤ X1 ∧ X1 ≤ 2 := by have := ok1.1.1; omega
  have hX2 : 1 ≤ X2 ∧ X2 ≤ 2 := by have := ok2.1.1; omega
  have hY2 : 0 < Y2 := by have := ok2.1.2; omega
  have hXX : X1 * X2 ≤ 4 := mul4 hX1.2 hX2.2
  have hX0 : 0 < X1 * X2 := Nat.mul_pos (by omega) (by omega)
  have HPB := Lib.hid (fun i => part_bd X1 Y1 X2 Y2 ws xss vs yss ok1 ok2 (fun i => L.getD (2 * i) 0) (fun i => L.getD (2 * i + 1) 0) q r i)
  have hq1 : q / Y2 < Y1 := (Nat.div_lt_iff_lt_mul hY2).2 hq
  have hq2 : q % Y2 < Y2 := Nat.mod_lt _ hY2
  have HW1 : Hid (∀ (W : World) (i : Nat), Below w.heap.size w W → i < X1 * X2 → Calls Try.prog 197 #[.agg #[.int .i64 (X1 : Int), .int .i64 (Y1 : Int), v, u], .int .i64 ((i / X2 : Nat) : Int), .int .i64 ((q / Y2 : Nat) : Int), .int .i64 (L.getD (2 * i) 0), .int .i64 ((r / 2 : Nat) : Int)] W fun e w' => e = .returned (.int .i64 (won ws xss ((i / X2) * Y1 + q / Y2) (L.getD (2 * i) 0) ((r / 2 : Nat) : Int))) ∧ Below W.heap.size W w') := Lib.hid (fun W i hW hi => by
    have hi1 : i / X2 < X1 := (Nat.div_lt_iff_lt_mul (by omega)).2 hi
    have := gwon.iwon X1 Y1 ((i / X2 : Nat) : Int) ((q / Y2 : Nat) : Int) (L.getD (2 * i) 0) ((r / 2 : Nat) : Int) v ws u xss W (h.below hW) ok1 (Int.natCast_nonneg _) (Int.ofNat_lt.2 hi1) (Int.natCast_nonneg _) (Int.ofNat_lt.2 hq1) (hb _) (by omega)
    rw [at_cast] at this
    exact this)
  have HW2 : Hid (∀ (W : World) (i : Nat), Below w.heap.size w W → i < X1 * X2 → Calls Try.prog 197 #[.agg #[.int .i64 (X2 : Int), .int .i64 (Y2 : Int), v', u'], .int .i64 ((i % X2 : Nat) : Int), .int .i64 ((q % Y2 : Nat) : Int), .int .i64 (L.getD (2 * i + 1) 0), .int .i64 ((r % 2 : Nat) : Int)] W fun e w' => e = .returned (.int .i64 (won vs yss ((i % X2) * Y2 + q % Y2) (L.getD (2 * i + 1) 0) ((r % 2 : Nat) : Int))) ∧ Below W.heap.size W w') := Lib.hid (fun W i hW hi => by
    have hi1 : i % X2 < X2 := Nat.mod_lt _ (by omega)
    have := gwon.iwon X2 Y2 ((i % X2 : Nat) : Int) ((q % Y2 : Nat) : Int) (L.getD (2 * i + 1) 0) ((r % 2 : Nat) : Int) v' vs u' yss W (h'.below hW) ok2 (Int.natCast_nonneg _) (Int.ofNat_lt.2 hi1) (Int.natCast_nonneg _) (Int.ofNat_lt.2 hq2) (hb _) (by omega)
    rw [at_cast] at this
    exact this)
  have HB1 : Hid (∀ i, 0 ≤ won ws xss ((i / X2) * Y1 + q / Y2) (L.getD (2 * i) 0) ((r / 2 : Nat) : Int) ∧ won ws xss ((i / X2) * Y1 + q / Y2) (L.getD (2 * i) 0) ((r / 2 : Nat) : Int) ≤ 99) := Lib.hid (fun i => won_bd ok1 _ _ _)
  have HB2 : Hid (∀ i, 0 ≤ won vs yss ((i % X2) * Y2 + q % Y2) (L.getD (2 * i + 1) 0) ((r % 2 : Nat) : Int) ∧ won vs yss ((i % X2) * Y2 + q % Y2) (L.getD (2 * i + 1) 0) ((r % 2 : Nat) : Int) ≤ 99) := Lib.hid (fun i => won_bd ok2 _ _ _)
  obtain ⟨va, vn, vc, ua, un, uc, rfl, rfl⟩ := h.shape
  obtain ⟨va', vn', vc', ua', un', uc', rfl, rfl⟩ := h'.shape
  obtain ⟨P, pb, po, pcap, rfl, hcap, hmax, hA, hc⟩ := hf.form
  obtain rfl := hA (by omega)
  have HPC : Hid (∀ k, k < L.length → w.cell? ⟨pb, po + k, none⟩ = some (.int .i64 (L.getD k 0))) := Lib.hid (fun k hk => by
    have h1 := hc k (by omega)
    have e : L.getD k 0 = L[k]'(by omega) := by rw [List.getD_eq_getElem?_getD, List.getElem?_eq_getElem (by omega)]; rfl
    rw [e]
    exact h1)
  have HLL := Lib.hid hL
  have HTW := Lib.hid (twins X1 X2 hX1.2 hX2.2)
  generalize ((q / Y2 : Nat) : Int) = y at *
  generalize ((q % Y2 : Nat) : Int) = z at *
  obtain ⟨b, hbe⟩ : ∃ b, ((r / 2 : Nat) : Int) = b := ⟨_, rfl⟩
  obtain ⟨c, hce⟩ : ∃ c, ((r % 2 : Nat) : Int) = c := ⟨_, rfl⟩
  rw [hbe] at HW1 HB1 ⊢
  rw [hce] at HW2 HB2 ⊢
  have HEb := Lib.hid hbe
  have HEc := Lib.hid hce
  clear hbe hce
  have F0 := Lib.hid (Fr.start w #[.int .i64 (X1 : Int), .int .i64 (Y1 : Int), .slice va vn vc, .slice ua un uc] #[.int .i64 (X2 : Int), .int .i64 (Y2 : Int), .slice va' vn' vc', .slice ua' un' uc'] #[.int .i64 y, .int .i64 z] #[.int .i64 b, .int .i64 c])
  have hll : Hid (((L.length : Nat) : Int) = 2 * ((X1 * X2 : Nat) : Int)) := Lib.hid (by omega)
  have HXX := Lib.hid hXX
  have hx4 : ((X1 * X2 : Nat) : Int) ≤ 4 := by omega
  have HX0 := Lib.hid hX0
  clear h h' hf ok1 ok2 x2 y2 x2' y2' hX1 hX2 hY2 hXX hX0 hq1 hq2 hb hq hr hc hA hmax hcap hL
  go_enter Try.func154, Try.ntmps154
  obtain ⟨c0, c1, c2, c3, c4⟩ := four_cells F0.out.one
  obtain ⟨d0, d1, d2, d3, d4⟩ := four_cells F0.out.two
  go_wp2_with fail
  refine (HTW.out _).mono ?_
  rintro e w1 ⟨ut, rfl, hut, hb1⟩
  have F1 := Lib.hid (F0.out.keep hb1)
  obtain ⟨ta, tn, tc, rfl⟩ := hut.pairs.shape
  obtain ⟨tb, to, rfl, hn, hn2, hn3, htc⟩ := pairAt hut.pairs (by rw [len_tw]; exact HX0.out)
  rw [len_tw] at hn
  subst hn
  have HTC : Hid (∀ k, k < X1 * X2 → w1.cell? ⟨tb, to + k * 2, none⟩ = some (.int .i64 ((k / X2 : Nat) : Int)) ∧ w1.cell? ⟨tb, to + k * 2 + 1, none⟩ = some (.int .i64 ((k % X2 : Nat) : Int))) := Lib.hid (fun k hk => by
    have := htc k (by rw [len_tw]; exact hk)
    rw [get_tw] at this
    exact this)
  clear hut hb1 F0 c0 c1 c2 c3 c4 d0 d1 d2 d3 d4 HTW htc hn2 hn3
  go_wp2_with fail
  go_loopw [11, 12, 13, 14, 15, 22] (fun s z12 z13 z14 z15 j wr => ∃ i : Nat, ∃ m : Int, i ≤ X1 * X2 ∧ j = .int .i64 (i : Nat) ∧ s = .int .i64 m ∧ 0 ≤ m ∧ m ≤ 39204 ∧ (∃ z, z12 = z) ∧ (∃ z, z13 = z) ∧ (∃ z, z14 = z) ∧ (∃ z, z15 = z) ∧ Hid (m = bvm.part Y1 X2 Y2 ws xss vs yss (fun i => L.getD (2 * i) 0) (fun i => L.getD (2 * i + 1) 0) q r i) ∧ Hid (Below w1.heap.size w1 wr) ∧ Hid (Fr w wr #[.int .i64 (X1 : Int), .int .i64 (Y1 : Int), .slice va vn vc, .slice ua un uc] #[.int .i64 (X2 : Int), .int .i64 (Y2 : Int), .slice va' vn' vc', .slice ua' un' uc'] #[.int .i64 y, .int .i64 z] #[.int .i64 b, .int .i64 c])) (fun _ _ _ _ _ j _ => X1 * X2 - (intOf j).toNat)
  case atStart => exact ⟨0, 0, Nat.zero_le _, rfl, rfl, by omega, by omega, ⟨_, rfl⟩, ⟨_, rfl⟩, ⟨_, rfl⟩, ⟨_, rfl⟩, Lib.hid rfl, Below.refl _ _, F1⟩
  case round =>
    clear F1
    obtain ⟨i, m, hi, rfl, rfl, hm0, hm1, ⟨z12, rfl⟩, ⟨z13, rfl⟩, ⟨z14, rfl⟩, ⟨z15, rfl⟩, hM, hB, hF⟩ := hrel
    obtain ⟨wi, rfl⟩ : ∃ wi : World, wi = wr := ⟨_, rfl⟩
    by_cases hlt : i < X1 * X2
    · have hkz : (i : Int) < ((X1 * X2 : Nat) : Int) := by omega
      obtain ⟨t0, t1⟩ := HTC.out i hlt
      have t0 := below_cell hB.out _ _ t0
      have t1 := below_cell hB.out _ _ t1
      have HM := Lib.hid (HPB.out (i + 1) (by have := HXX.out; omega))
      have HS : Hid (bvm.part Y1 X2 Y2 ws xss vs yss (fun i => L.getD (2 * i) 0) (fun i => L.getD (2 * i + 1) 0) q r (i + 1) = m + won ws xss ((i / X2) * Y1 + q / Y2) (L.getD (2 * i) 0) b * won vs yss ((i % X2) * Y2 + q % Y2) (L.getD (2 * i + 1) 0) c) := Lib.hid (by rw [hM.out, ← HEb.out, ← HEc.out]; rfl)
      have hbb := HM.out
      rw [HS.out] at hbb
      obtain ⟨r10, r11⟩ := HB1.out i
      obtain ⟨r20, r21⟩ := HB2.out i
      have HCA := Lib.hid (fun W hW => HW1.out W i hW hlt)
      have HCB := Lib.hid (fun W hW => HW2.out W i hW hlt)
      have f1 := below_cell hF.out.below _ _ (HPC.out (2 * i) (by have := HLL.out; omega))
      have f2 := below_cell hF.out.below _ _ (HPC.out (2 * i + 1) (by have := HLL.out; omega))
      have hp1 : 2 * (i : Int) < ((L.length : Nat) : Int) := by have := hll.out; omega
      obtain ⟨T, hT⟩ : ∃ T, 2 * i + 1 = T := ⟨_, rfl⟩
      have hp2 : (T : Int) < ((L.length : Nat) : Int) := by have := hll.out; omega
      have f1 : wi.cell? ⟨pb, po + (2 * (i : Int)).toNat, none⟩ = some (.int .i64 (L.getD (2 * i) 0)) := by
        rw [show (2 * (i : Int)).toNat = 2 * i from by omega]; exact f1
      rw [hT] at f2
      generalize L.getD (2 * i) 0 = s1 at HCA f1 HS hbb r10 r11
      rw [hT] at HCB HS hbb r20 r21
      generalize L.getD T 0 = s2 at HCB f2 HS hbb r20 r21
      generalize won ws xss (i / X2 * Y1 + q / Y2) s1 b = r1 at HCA HS hbb r10 r11
      generalize won vs yss (i % X2 * Y2 + q % Y2) s2 c = r2 at HCB HS hbb r20 r21
      generalize ((i / X2 : Nat) : Int) = x0 at t0 HCA
      generalize ((i % X2 : Nat) : Int) = x1 at t1 HCB
      have HR : Hid (0 ≤ r1 * r2 ∧ r1 * r2 ≤ 9801) := Lib.hid ⟨Int.mul_nonneg r10 r20, Int.le_trans (Int.mul_le_mul r11 r21 r20 (by decide)) (by decide)⟩
      have hmw1 : IntKind.i64.wrap (r1 * r2) = r1 * r2 := IntWalk.i64_in _ (by have := HR.out; omega)
      have hmw2 : IntKind.i64.wrap (m + r1 * r2) = m + r1 * r2 := IntWalk.i64_in _ (by have := HR.out; omega)
      have hwr1 : IntKind.i64.wrap (2 * (i : Int)) = 2 * (i : Int) := IntWalk.i64_in _ (by omega)
      have hwr2 : IntKind.i64.wrap (2 * (i : Int) + 1) = (T : Int) := by
        rw [show 2 * (i : Int) + 1 = (T : Int) by omega]; exact IntWalk.i64_in _ (by omega)
      have h01 : (0 : Int) ≤ 2 * (i : Int) := by omega
      have o1 := below_al (Below.refl wi.heap.size wi) (.cells #[.int .i64 x0, .int .i64 x1] 167)
      have F2 := Lib.hid (hF.out.keep o1)
      have B2 := Lib.hid (below_tr hB.out o1)
      have KX := Lib.hid (Blk.new wi 167 #[.int .i64 x0, .int .i64 x1])
      have G1 := Lib.hid (below_cell o1 _ _ f1)
      have G2 := Lib.hid (below_cell o1 _ _ f2)
      clear hT o1 f1 f2 hB hF HM r10 r11 r20 r21
      go_wp2_with fail
      clear t0 t1
      obtain ⟨c0, c1, c2, c3, _⟩ := four_cells F2.out.one
      obtain ⟨e0, e1, _⟩ := two_cells KX.out
      obtain ⟨y0, y1, _⟩ := two_cells F2.out.ask
      obtain ⟨b0, b1, _⟩ := two_cells F2.out.ans
      have f1 := G1.out
      go_region_held3 (fun w' => w'.cell? ⟨w.heap.size, 0, none⟩ = some (Value.int .i64 (X1 : Int)) ∧ w'.cell? ⟨w.heap.size, 1, none⟩ = some (Value.int .i64 (Y1 : Int)) ∧ w'.cell? ⟨w.heap.size, 2, none⟩ = some (Value.slice va vn vc) ∧ w'.cell? ⟨w.heap.size, 3, none⟩ = some (Value.slice ua un uc) ∧ w'.cell? ⟨wi.heap.size, 0, none⟩ = some (.int .i64 x0) ∧ w'.cell? ⟨w.heap.size + 1 + 1, 0, none⟩ = some (.int .i64 y) ∧ w'.cell? ⟨pb, po + (2 * (i : Int)).toNat, none⟩ = some (.int .i64 s1) ∧ w'.cell? ⟨w.heap.size + 1 + 1 + 1, 0, none⟩ = some (.int .i64 b) ∧ Below (wi.alloc (.cells #[.int .i64 x0, .int .i64 x1] 167)).heap.size (wi.alloc (.cells #[.int .i64 x0, .int .i64 x1] 167)) w')
        (((with_reducible refine held8 c0 c1 c2 c3 e0 y0 f1 b0 ?_); repeat (first | (with_reducible exact Below.refl _ _) | (with_reducible refine below_dr ?_) | (with_reducible refine below_tr ?_ (by assumption)))))
        (first
          | (go_at_call 197; (with_reducible refine (HCA.out _ (below_tr F2.out.below ?_)).mono ?_); (repeat (first | (with_reducible exact Below.refl _ _) | (with_reducible refine below_dr ?_) | (with_reducible refine below_tr ?_ (by assumption)))); rintro e wq0 ⟨rfl, hq0⟩))
      have hbt : Below (wi.alloc (.cells #[.int .i64 x0, .int .i64 x1] 167)).heap.size (wi.alloc (.cells #[.int .i64 x0, .int .i64 x1] 167)) wq0 := by repeat (first | (with_reducible exact Below.refl _ _) | (with_reducible refine below_dr ?_) | (with_reducible refine below_tr ?_ (by assumption)))
      have F3 := Lib.hid (F2.out.keep hbt)
      have B3 := Lib.hid (below_tr B2.out hbt)
      have KX3 := Lib.hid (KX.out.below hbt)
      have f2 := below_cell hbt _ _ G2.out
      clear hbt hq0 c0 c1 c2 c3 e0 e1 y0 y1 b0 b1 f1 F2 B2 KX G1 G2 HCA
      obtain ⟨c0, c1, c2, c3, _⟩ := four_cells F3.out.two
      obtain ⟨e0, e1, _⟩ := two_cells KX3.out
      obtain ⟨y0, y1, _⟩ := two_cells F3.out.ask
      obtain ⟨b0, b1, _⟩ := two_cells F3.out.ans
      go_wp2_with fail
      go_region_held3 (fun w' => w'.cell? ⟨w.heap.size + 1, 0, none⟩ = some (Value.int .i64 (X2 : Int)) ∧ w'.cell? ⟨w.heap.size + 1, 1, none⟩ = some (Value.int .i64 (Y2 : Int)) ∧ w'.cell? ⟨w.heap.size + 1, 2, none⟩ = some (Value.slice va' vn' vc') ∧ w'.cell? ⟨w.heap.size + 1, 3, none⟩ = some (Value.slice ua' un' uc') ∧ w'.cell? ⟨wi.heap.size, 1, none⟩ = some (.int .i64 x1) ∧ w'.cell? ⟨w.heap.size + 1 + 1, 1, none⟩ = some (.int .i64 z) ∧ w'.cell? ⟨pb, po + T, none⟩ = some (.int .i64 s2) ∧ w'.cell? ⟨w.heap.size + 1 + 1 + 1, 1, none⟩ = some (.int .i64 c) ∧ Below wq0.heap.size wq0 w')
        (((with_reducible refine held8 c0 c1 c2 c3 e1 y1 f2 b1 ?_); repeat (first | (with_reducible exact Below.refl _ _) | (with_reducible refine below_dr ?_) | (with_reducible refine below_tr ?_ (by assumption)))))
        (first
          | (go_at_call 197; (with_reducible refine (HCB.out _ (below_tr F3.out.below ?_)).mono ?_); (repeat (first | (with_reducible exact Below.refl _ _) | (with_reducible refine below_dr ?_) | (with_reducible refine below_tr ?_ (by assumption)))); rintro e wq1 ⟨rfl, hq1⟩))
      have hbt : Below wq0.heap.size wq0 wq1 := by repeat (first | (with_reducible exact Below.refl _ _) | (with_reducible refine below_dr ?_) | (with_reducible refine below_tr ?_ (by assumption)))
      have F4 := Lib.hid (F3.out.keep hbt)
      have B4 := Lib.hid (below_tr B3.out hbt)
      clear hbt hq1 c0 c1 c2 c3 e0 e1 y0 y1 b0 b1 f2 F3 B3 KX3 HCB hwr1 hwr2
      go_wp2_with fail
      go_roundw
      case rel => exact ⟨i + 1, _, by omega, by go_num, rfl, by omega, by omega, ⟨_, rfl⟩, ⟨_, rfl⟩, ⟨_, rfl⟩, ⟨_, rfl⟩, Lib.hid HS.out.symm, B4, F4⟩
      case measure => simp [intOf]; omega
    · have hkz : ¬ (i : Int) < ((X1 * X2 : Nat) : Int) := by omega
      obtain rfl : i = X1 * X2 := by omega
      go_wp2_with fail
      go_ret
      exact ⟨ret_int hM.out, hF.out.below⟩

end Go.Proofs.Ytimfnhejiiagmaa.bvw
