/- AddThird of the program. -/
import Derived.Test.YtomofmmecpdalabGrd
import Derived.Test.YtomofmmecpdalabTvk
import Derived.Test.YtomofmmecpdalabLast
import Derived.Test.YtomofmmecpdalabPlay
import Derived.Test.YtomofmmecpdalabTwoa
import Derived.Test.YtomofmmecpdalabAsk
import Derived.Laws.EntriesVeiled
namespace Go.Proofs.Ytomofmmecpdalab.tat
open Go.RowKit Go.Deep Go.Proofs.Ytomofmmecpdalab.base
open Go.Proofs.Ytomofmmecpdalab.ints (infoInt infoInts ret_int)
open Go.Proofs.Ytomofmmecpdalab.rws (total)
open Go.Proofs.Ytomofmmecpdalab.tri (two_cells)
open Go.Proofs.Ytomofmmecpdalab.trb (three_cells without2 place2_g b2)
open Go.Proofs.Ytomofmmecpdalab.grd
open Go.Proofs.Ytomofmmecpdalab.tvk (Res)
open Go.Proofs.Ytomofmmecpdalab.row (nn nn_bd nn_get at_ rowof)
open Go.Proofs.Ytomofmmecpdalab.val (okBox boxB boxB_yes boxB_no)
open Go.Proofs.Ytomofmmecpdalab.two (two twoB twoB_yes twoB_no asksB asksB_yes asksB_no)
open Go.Proofs.Ytomofmmecpdalab.play (within withinB withinB_yes withinB_no)
open Go.Proofs.Ytomofmmecpdalab.trv (okTrio)

theorem one_cell {W : World} {b : Nat} {t : TypeId} {u : Value} (hk : Blk W b t #[u]) : W.cell? ⟨b, 0, none⟩ = some u := by
  have := Joins.cell_of_block hk 0
  rw [this]; rfl
def th (cs : List Int) (most : Int) (i a : Nat) : Int := if a = 1 then cs.getD i 0 else most - cs.getD i 0
def NA (xss : List (List Int)) (cs : List Int) (most : Int) (q k : Nat) : Int := nn xss (q / 2) (k / 2) * th cs most (q % 2) (k % 2)
def good (x y wh : Int) (xss : List (List Int)) (cs : List Int) (most : Int) : Prop := two x y wh xss ∧ (1 ≤ most ∧ most ≤ 1000) ∧ within 2 0 most cs
open Classical in
noncomputable def res (x y wh : Int) (xss : List (List Int)) (cs : List Int) (most : Int) : Res := if good x y wh xss cs most ∧ okTrio (wh * most) (rows8 (NA xss cs most)) then ⟨wh * most, rows8 (NA xss cs most), true⟩ else Res.zero
theorem res_yes {x y wh : Int} {xss : List (List Int)} {cs : List Int} {most : Int} (h : good x y wh xss cs most ∧ okTrio (wh * most) (rows8 (NA xss cs most))) : res x y wh xss cs most = ⟨wh * most, rows8 (NA xss cs most), true⟩ := if_pos h
theorem res_no {x y wh : Int} {xss : List (List Int)} {cs : List Int} {most : Int} (h : ¬ (good x y wh xss cs most ∧ okTrio (wh * most) (rows8 (NA xss cs most)))) : res x y wh xss cs most = Res.zero := if_neg h
theorem tot_res (x y wh : Int) (xss : List (List Int)) (cs : List Int) (most : Int) : rws.total (res x y wh xss cs most).rows ≤ 1048576 := by
  by_cases h : good x y wh xss cs most ∧ okTrio (wh * most) (rows8 (NA xss cs most))
  · rw [res_yes h]; exact tot_rows8 _
  · rw [res_no h]; simp [Res.zero, rws.total]
theorem mul_in {a b : Int} (ha : 0 ≤ a ∧ a ≤ 1000) (hb : 0 ≤ b ∧ b ≤ 1000) : 0 ≤ a * b ∧ a * b ≤ 1000000 := by
  refine ⟨Int.mul_nonneg ha.1 hb.1, ?_⟩
  have := Int.mul_le_mul ha.2 hb.2 hb.1 (by omega)
  omega
theorem cs_in {cs : List Int} {most : Int} (h : within 2 0 most cs) {i : Nat} (hi : i < 2) : 0 ≤ cs.getD i 0 ∧ cs.getD i 0 ≤ most ∧ ∃ h' : i < cs.length, cs[i] = cs.getD i 0 := by
  have hl : i < cs.length := by have := h.1; omega
  have := h.2 i hl
  rw [trn.getD_at hl]
  exact ⟨this.1, this.2, hl, rfl⟩
theorem th_in {x y wh : Int} {xss : List (List Int)} {cs : List Int} {most : Int} (h : good x y wh xss cs most) {i : Nat} (hi : i < 2) (a : Nat) : 0 ≤ th cs most i a ∧ th cs most i a ≤ 1000 := by
  obtain ⟨h1, h2, _⟩ := cs_in h.2.2 hi
  have := h.2.1
  unfold th
  split <;> omega
theorem len4 {x y wh : Int} {xss : List (List Int)} (h : two x y wh xss) : xss.length = 4 := by
  obtain ⟨h, rfl, rfl⟩ := h
  have := h.2.2.1
  omega
theorem nn4 {x y wh : Int} {xss : List (List Int)} (h : two x y wh xss) {r k : Nat} (hr : r < 4) (hk : k < 4) : 0 ≤ nn xss r k ∧ nn xss r k ≤ 1000 := nn_bd h.1 (by rw [len4 h]; exact hr) hk
theorem na_wrap {x y wh : Int} {xss : List (List Int)} {cs : List Int} {most : Int} (h : good x y wh xss cs most) {q k : Nat} (hq : q < 8) (hk : k < 8) : IntKind.i64.wrap (nn xss (q / 2) (k / 2) * th cs most (q % 2) (k % 2)) = NA xss cs most q k := by
  have := mul_in (nn4 h.1 (show q / 2 < 4 by omega) (show k / 2 < 4 by omega)) (th_in h (show q % 2 < 2 by omega) (k % 2))
  exact IntWalk.i64_in _ (by omega)
theorem wm_wrap {x y wh : Int} {xss : List (List Int)} {cs : List Int} {most : Int} (h : good x y wh xss cs most) : IntKind.i64.wrap (wh * most) = wh * most := by
  have := mul_in (a := wh) (b := most) (by have := h.1.1.2.1; omega) (by have := h.2.1; omega)
  exact IntWalk.i64_in _ (by omega)


set_option maxHeartbeats 1000000 in
theorem ibt (x y wh : Int) (v : Value) (xss : List (List Int)) (w : World) (h : IRows w v xss) (hn : total xss ≤ 1048576) :
    Calls Try.prog 29 #[.agg #[.int .i64 x, .int .i64 y, .int .i64 wh, v]] w fun e w' => e = .returned (.bool (twoB x y wh xss)) ∧ Below w.heap.size w w' := by
  obtain ⟨va, vn, vc, rfl⟩ := h.shape
  have B0 := Lib.hid (below_al (Below.refl w.heap.size w) (.cells #[.int .i64 x, .int .i64 y, .int .i64 wh, .slice va vn vc] 31))
  have K0 := Lib.hid (Blk.new w 31 #[.int .i64 x, .int .i64 y, .int .i64 wh, .slice va vn vc])
  have hr := val.impl_any x y wh _ xss _ (h.below B0.out) hn
  clear h
  by_cases hok : okBox x y wh xss
  · rw [boxB_yes hok] at hr
    have HR := Lib.hid hr
    have HT : Hid (twoB x y wh xss = asksB x y) := Lib.hid (by
      by_cases h2 : x = 2 ∧ y = 2
      · rw [twoB_yes ⟨hok, h2⟩, h2.1, h2.2]; exact asksB_yes.symm
      · rw [twoB_no (fun h => h2 h.2)]; exact (asksB_no h2).symm)
    clear hr hok
    go_enter Try.func29, Try.ntmps29
    go_wp2_with fail
    refine HR.out.mono ?_
    rintro e w1 ⟨rfl, hb⟩
    have B1 := Lib.hid (below_tr B0.out hb)
    have K1 := Lib.hid (K0.out.below hb)
    obtain ⟨c0, c1, c2, c3, c4⟩ := four_cells K1.out
    clear hb HR B0 K0
    go_wp2_with fail
    refine (two.asks x y w1).mono ?_
    rintro e w' ⟨rfl, rfl⟩
    go_wp2_with fail
    go_ret
    exact ⟨val.ret_b HT.out.symm, B1.out⟩
  · rw [boxB_no hok] at hr
    rw [twoB_no (fun h => hok h.1)]
    have HR := Lib.hid hr
    clear hr hok
    go_enter Try.func29, Try.ntmps29
    go_wp2_with fail
    refine HR.out.mono ?_
    rintro e w1 ⟨rfl, hb⟩
    have B1 := Lib.hid (below_tr B0.out hb)
    clear hb HR B0 K0
    go_wp2_with fail
    go_ret
    exact ⟨rfl, B1.out⟩


set_option maxHeartbeats 4000000 in
theorem third (p4 p5 : Nat) (vc : Value) (cs : List Int) (most : Int) (i a : Nat) (w : World) (hi : i < 2) (ha : a < 2) (h4 : w.cell? ⟨p4, 0, none⟩ = some vc) (h5 : w.cell? ⟨p5, 0, none⟩ = some (.int .i64 most)) (hc : Ints w vc cs) (hm : 1 ≤ most ∧ most ≤ 1000) (hw : within 2 0 most cs) :
    Calls Try.prog 31 #[.int .i64 (i : Int), .int .i64 (a : Int), .pointer (some ⟨p4, 0, none⟩), .pointer (some ⟨p5, 0, none⟩)] w fun e w' => e = .returned (.int .i64 (th cs most i a)) ∧ Below w.heap.size w w' := by
  obtain ⟨A, b, o, cap, rfl, hcap, hmax, hA, hcc⟩ := hc.form
  have hl : cs.length = 2 := by have := hw.1; omega
  obtain ⟨c1, c2, hlt, ce⟩ := cs_in hw hi
  obtain rfl := hA (by omega)
  have x1 := hcc i hlt
  rw [ce] at x1
  rw [hl] at h4
  have hiz : (i : Int) < 2 := by omega
  have hws : IntKind.i64.wrap (most - cs.getD i 0) = most - cs.getD i 0 := IntWalk.i64_in _ (by omega)
  clear hc hcc hA hmax hcap hw ce hlt hl
  obtain rfl | rfl : a = 0 ∨ a = 1 := by omega
  · have et : th cs most i 0 = most - cs.getD i 0 := by simp [th]
    rw [et]
    generalize cs.getD i 0 = ci at *
    clear et
    go_enter Try.func31, Try.ntmps31
    go_wp2_with fail
    go_region_held3 (fun w' => w'.cell? ⟨p4, 0, none⟩ = some (.slice (some ⟨b, o, none⟩) 2 cap) ∧ w'.cell? ⟨p5, 0, none⟩ = some (.int .i64 most) ∧ w'.cell? ⟨b, o + i, none⟩ = some (.int .i64 ci) ∧ Below w.heap.size w w')
      ((refine ⟨below_cell ?_ _ _ h4, below_cell ?_ _ _ h5, below_cell ?_ _ _ x1, ?_⟩; all_goals (repeat (first | (with_reducible exact Below.refl _ _) | (with_reducible refine below_dr ?_) | (with_reducible refine below_tr ?_ (by assumption))))))
      (fail)
    go_wp2_with fail
    go_ret
    exact ⟨rfl, (Below.refl _ _).drew⟩
  · have et : th cs most i 1 = cs.getD i 0 := by simp [th]
    rw [et]
    generalize cs.getD i 0 = ci at *
    clear et
    go_enter Try.func31, Try.ntmps31
    go_wp2_with fail
    go_ret
    exact ⟨rfl, Below.refl _ _⟩



set_option maxHeartbeats 4000000 in
theorem closure (p3 p4 p5 p8 : Nat) (x y wh : Int) (v vc : Value) (xss : List (List Int)) (cs : List Int) (most : Int) (q c : Nat) (w : World) (hq : q < 8) (hc : c < 8)
    (h0 : w.cell? ⟨p3, 0, none⟩ = some (.int .i64 x)) (h1 : w.cell? ⟨p3, 1, none⟩ = some (.int .i64 y)) (h2 : w.cell? ⟨p3, 2, none⟩ = some (.int .i64 wh)) (h3 : w.cell? ⟨p3, 3, none⟩ = some v)
    (h8 : w.cell? ⟨p8, 0, none⟩ = some (Value.func (.func 31) #[] #[.pointer (some ⟨p4, 0, none⟩), .pointer (some ⟨p5, 0, none⟩)])) (h4 : w.cell? ⟨p4, 0, none⟩ = some vc) (h5 : w.cell? ⟨p5, 0, none⟩ = some (.int .i64 most))
    (hx : IRows w v xss) (hcs : Ints w vc cs) (hok : good x y wh xss cs most) :
    Calls Try.prog 34 #[.agg #[.int .i64 ((q : Int) / 4 % 2), .int .i64 ((q : Int) / 2 % 2), .int .i64 ((q : Int) % 2)], .agg #[.int .i64 ((c : Int) / 4 % 2), .int .i64 ((c : Int) / 2 % 2), .int .i64 ((c : Int) % 2)], .pointer (some ⟨p3, 0, none⟩), .pointer (some ⟨p8, 0, none⟩)] w fun e w' => e = .returned (.int .i64 (NA xss cs most q c)) ∧ Below w.heap.size w w' := by
  have hwn := na_wrap hok hq hc
  have HR := Lib.hid (fun (W : World) (hW : Below w.heap.size w W) => (show Calls Try.prog 35 #[.agg #[.int .i64 x, .int .i64 y, .int .i64 wh, v], .int .i64 ((q : Int) / 4 % 2), .int .i64 ((q : Int) / 2 % 2)] W fun e w' => e = .returned (.agg #[.int .i64 (nn xss (q / 2) 0), .int .i64 (nn xss (q / 2) 1), .int .i64 (nn xss (q / 2) 2), .int .i64 (nn xss (q / 2) 3)]) ∧ Below W.heap.size W w' from by
    obtain ⟨hb, rfl, rfl⟩ := hok.1
    have := rowof 2 2 wh ((q : Int) / 4 % 2) ((q : Int) / 2 % 2) v xss W (hx.below hW) hb (by omega) (by omega) (by omega) (by omega)
    have e : at_ 2 ((q : Int) / 4 % 2) ((q : Int) / 2 % 2) = q / 2 := by unfold at_; omega
    rw [e] at this
    exact this))
  have HT := Lib.hid (fun (W : World) (hW : Below w.heap.size w W) => (show Calls Try.prog 31 #[.int .i64 ((q : Int) % 2), .int .i64 ((c : Int) % 2), .pointer (some ⟨p4, 0, none⟩), .pointer (some ⟨p5, 0, none⟩)] W fun e w' => e = .returned (.int .i64 (th cs most (q % 2) (c % 2))) ∧ Below W.heap.size W w' from by
    have := third p4 p5 vc cs most (q % 2) (c % 2) W (by omega) (by omega) (below_cell hW _ _ h4) (below_cell hW _ _ h5) (hcs.below hW) hok.2.1 hok.2.2
    simpa using this))
  have HWO := Lib.hid (fun W => (show Calls Try.prog 36 #[.agg #[.int .i64 ((c : Int) / 4 % 2), .int .i64 ((c : Int) / 2 % 2), .int .i64 ((c : Int) % 2)], .int .i64 2] W fun e w' => e = .returned (.agg #[.int .i64 ((c : Int) / 4 % 2), .int .i64 ((c : Int) / 2 % 2)]) ∧ Below W.heap.size W w' from without2 _ _ _ W))
  have HPL := Lib.hid (fun W => (show Calls Try.prog 37 #[.agg #[.int .i64 ((c : Int) / 4 % 2), .int .i64 ((c : Int) / 2 % 2)]] W fun e w' => e = .returned (.int .i64 ((c / 2 : Nat) : Int)) ∧ Below W.heap.size W w' from by
    have := place2_g ((c : Int) / 4 % 2) ((c : Int) / 2 % 2) W (by omega) (by omega)
    have e : 2 * ((c : Int) / 4 % 2) + (c : Int) / 2 % 2 = ((c / 2 : Nat) : Int) := by omega
    rw [e] at this
    exact this))
  have hk4 : c / 2 < 4 := by omega
  have hkz : ((c / 2 : Nat) : Int) < 4 := by omega
  obtain ⟨va, vn, vcc, rfl⟩ := hx.shape
  obtain ⟨W0, hW0⟩ : ∃ W, W = (w.alloc (.cells #[.int .i64 ((q : Int) / 4 % 2), .int .i64 ((q : Int) / 2 % 2), .int .i64 ((q : Int) % 2)] 60)).alloc (.cells #[.int .i64 ((c : Int) / 4 % 2), .int .i64 ((c : Int) / 2 % 2), .int .i64 ((c : Int) % 2)] 60) := ⟨_, rfl⟩
  have Kq : Hid (Blk W0 w.heap.size 60 #[.int .i64 ((q : Int) / 4 % 2), .int .i64 ((q : Int) / 2 % 2), .int .i64 ((q : Int) % 2)]) := Lib.hid (by rw [hW0]; exact (Blk.new _ _ _).alloc _)
  have Kk : Hid (Blk W0 (w.heap.size + 1) 60 #[.int .i64 ((c : Int) / 4 % 2), .int .i64 ((c : Int) / 2 % 2), .int .i64 ((c : Int) % 2)]) := Lib.hid (by
    rw [hW0]
    have := Blk.new (w.alloc (.cells #[.int .i64 ((q : Int) / 4 % 2), .int .i64 ((q : Int) / 2 % 2), .int .i64 ((q : Int) % 2)] 60)) 60 #[.int .i64 ((c : Int) / 4 % 2), .int .i64 ((c : Int) / 2 % 2), .int .i64 ((c : Int) % 2)]
    simpa using this)
  have B0 : Hid (Below w.heap.size w W0) := Lib.hid (by rw [hW0]; exact below_al (below_al (Below.refl _ _) _) _)
  have x0 := below_cell B0.out _ _ h0
  have x1 := below_cell B0.out _ _ h1
  have x2 := below_cell B0.out _ _ h2
  have x3 := below_cell B0.out _ _ h3
  have X8 := Lib.hid (below_cell B0.out _ _ h8)
  obtain ⟨q0, q1, q2, _⟩ := three_cells Kq.out
  rw [hW0] at x0 x1 x2 x3 q0 q1
  clear h0 h1 h2 h3 h4 h5 h8 hx hcs hok q2
  go_enter Try.func34, Try.ntmps34
  go_wp2_with fail
  rw [← hW0]
  rw [← hW0] at x0 x1 x2 x3 q0 q1
  clear hW0
  refine (HR.out _ B0.out).mono ?_
  rintro e w1 ⟨rfl, hb⟩
  clear x0 x1 x2 x3 q0 q1
  obtain ⟨kh, hkh⟩ : ∃ kh, kh = c / 2 := ⟨_, rfl⟩
  obtain ⟨qh, hqh⟩ : ∃ qh, qh = q / 2 := ⟨_, rfl⟩
  rw [← hkh] at hk4 hkz HPL
  rw [← hkh, ← hqh] at hwn
  rw [← hqh]
  clear hkh hqh
  have EW := Lib.hid (below_tr hb (below_al (Below.refl w1.heap.size w1) (.cells #[.int .i64 (nn xss qh 0), .int .i64 (nn xss qh 1), .int .i64 (nn xss qh 2), .int .i64 (nn xss qh 3)] 62)))
  have KR := Lib.hid (Blk.new w1 62 #[.int .i64 (nn xss qh 0), .int .i64 (nn xss qh 1), .int .i64 (nn xss qh 2), .int .i64 (nn xss qh 3)])
  clear hb
  go_wp2_with fail
  generalize (w1.alloc (.cells #[.int .i64 (nn xss qh 0), .int .i64 (nn xss qh 1), .int .i64 (nn xss qh 2), .int .i64 (nn xss qh 3)] 62)) = w2 at *
  generalize w1.heap.size = g at *
  have xr : w2.cell? ⟨g, kh, none⟩ = some (.int .i64 (nn xss qh kh)) := by
    obtain ⟨c0, c1, c2, c3, _⟩ := four_cells KR.out
    obtain rfl | rfl | rfl | rfl : kh = 0 ∨ kh = 1 ∨ kh = 2 ∨ kh = 3 := by omega
    · exact c0
    · exact c1
    · exact c2
    · exact c3
  obtain ⟨_, _, q2, _⟩ := three_cells (Kq.out.below EW.out)
  obtain ⟨k0, k1, k2, _⟩ := three_cells (Kk.out.below EW.out)
  have x8 := below_cell EW.out _ _ X8.out
  clear KR X8 Kq Kk HR
  generalize nn xss qh kh = nv at *
  generalize th cs most (q % 2) (c % 2) = tv at *
  go_region_held3 (fun w' => w'.cell? ⟨w.heap.size + 1, 0, none⟩ = some (.int .i64 ((c : Int) / 4 % 2)) ∧ w'.cell? ⟨w.heap.size + 1, 1, none⟩ = some (.int .i64 ((c : Int) / 2 % 2)) ∧ w'.cell? ⟨w.heap.size + 1, 2, none⟩ = some (.int .i64 ((c : Int) % 2)) ∧ w'.cell? ⟨w.heap.size, 2, none⟩ = some (.int .i64 ((q : Int) % 2)) ∧ w'.cell? ⟨g, kh, none⟩ = some (.int .i64 nv) ∧ w'.cell? ⟨p8, 0, none⟩ = some (Value.func (.func 31) #[] #[.pointer (some ⟨p4, 0, none⟩), .pointer (some ⟨p5, 0, none⟩)]) ∧ Below w2.heap.size w2 w')
    ((refine hld.held6 rfl k0 k1 k2 q2 xr x8 ?_; repeat (first | (with_reducible exact Below.refl _ _) | (with_reducible refine below_dr ?_) | (with_reducible refine below_tr ?_ (by assumption)))))
    (first | (go_at_call 36; (with_reducible refine (HWO.out _).mono ?_); rintro e y1 ⟨rfl, hy1⟩) | (go_at_call 37; (with_reducible refine (HPL.out _).mono ?_); rintro e y2 ⟨rfl, hy2⟩) | (go_at_call 31; (with_reducible refine (HT.out _ (below_tr B0.out (below_tr EW.out (by repeat (first | (with_reducible exact Below.refl _ _) | (with_reducible refine below_dr ?_) | (with_reducible refine below_tr ?_ (by assumption))))))).mono ?_); rintro e y3 ⟨rfl, hy3⟩))
  go_wp2_with fail
  go_ret
  refine ⟨rfl, below_tr B0.out (below_tr EW.out ?_)⟩
  repeat (first | (with_reducible exact Below.refl _ _) | (with_reducible refine below_dr ?_) | (with_reducible refine below_tr ?_ (by assumption)))


theorem held2f {B : Nat} {w w' : World} {p1 p2 : Addr} {u1 u2 : Value} (hB : B = w.heap.size) (h1 : w.cell? p1 = some u1) (h2 : w.cell? p2 = some u2) (hf : w.frozen? p2 = false) (hb : Below B w w') :
    w'.cell? p1 = some u1 ∧ w'.cell? p2 = some u2 ∧ w'.frozen? p2 = false ∧ Below B w w' := by
  subst hB
  exact ⟨below_cell hb _ _ h1, below_cell hb _ _ h2, (hb.frozen (World.block_lt_of_cell? _ _ h2)).trans hf, hb⟩
theorem at3z (k : Nat) (hk : k < 8) (w : World) : Calls Try.prog 55 #[.int .i64 (k : Int)] w fun e w' => e = .returned (.agg #[.int .i64 ((k : Int) / 4 % 2), .int .i64 ((k : Int) / 2 % 2), .int .i64 ((k : Int) % 2)]) ∧ Below w.heap.size w w' := by
  have := trb.at3 k hk w
  simpa [trb.tb, trb.b3] using this

set_option maxHeartbeats 8000000 in
theorem makes  (p0 p1 : Nat) (wh : Int) (N : Nat → Nat → Int) (w : World)
    (hnum : ∀ (q c : Nat) (W : World), q < 8 → c < 8 → Below w.heap.size w W → Calls Try.prog 34 #[.agg #[.int .i64 ((q : Int) / 4 % 2), .int .i64 ((q : Int) / 2 % 2), .int .i64 ((q : Int) % 2)], .agg #[.int .i64 ((c : Int) / 4 % 2), .int .i64 ((c : Int) / 2 % 2), .int .i64 ((c : Int) % 2)], .pointer (some ⟨p0, 0, none⟩), .pointer (some ⟨p1, 0, none⟩)] W fun e w' => e = .returned (.int .i64 (N q c)) ∧ Below W.heap.size W w') :
    Calls Try.prog 33 #[.int .i64 wh, .func (.func 34) #[] #[.pointer (some ⟨p0, 0, none⟩), .pointer (some ⟨p1, 0, none⟩)]] w fun e w' => ∃ u, e = .returned (.agg #[.int .i64 wh, u]) ∧ OwnRows w' w.heap.size w'.heap.size u (rows8 N) ∧ Below w.heap.size w w' := by
  have hmk : ∀ W : World, (Instr.makeSlice 25 (.int .i64 8) (.int .i64 8)).run Try.prog W = .ok (.slice (some ⟨W.heap.size, 0, none⟩) 8 8) (W.alloc (.cells (madeCells #[.int .i64 0] 8) 3)) := fun W => by kernel_rfl
  have hmr : ∀ W : World, (Instr.makeSlice 22 (.int .i64 8) (.int .i64 8)).run Try.prog W = .ok (.slice (some ⟨W.heap.size, 0, none⟩) 8 8) (W.alloc (.cells (madeCells #[.slice none 0 0] 8) 25)) := fun W => by kernel_rfl
  have HN := Lib.hid hnum
  clear hnum
  obtain ⟨W0, hW0⟩ : ∃ W, W = (w.alloc (.cells #[.int .i64 0, .slice none 0 0] 28)).alloc (.cells (madeCells #[.slice none 0 0] 8) 25) := ⟨_, rfl⟩
  have K0 : Hid (Blk W0 w.heap.size 28 #[.int .i64 0, .slice none 0 0]) := Lib.hid (by rw [hW0]; exact (Blk.new _ _ _).alloc _)
  have G0 : Hid (Grd w W0 (w.heap.size + 1) (up 0) (fun _ => 0) (Fq N 0 0)) := Lib.hid (by
    have hr : W0.rowIs (w.heap.size + 1) 25 8 (fun _ => .slice none 0 0) := by
      rw [hW0]
      have := World.rowIs_made (w.alloc (.cells #[.int .i64 0, .slice none 0 0] 28)) (.slice none 0 0) 8 25
      simpa using this
    refine ⟨by rw [hW0]; exact below_al (below_al (Below.refl _ _) _) _, by omega, hr.congr (fun i _ => by simp [outer, up]), fun i _ ho => by simp [up] at ho, fun i _ ho => by simp [up] at ho, fun i j _ _ ho => by simp [up] at ho⟩)
  go_enter Try.func33, Try.ntmps33
  go_wp2_with fail
  rw [← hW0]
  clear hW0 hmr
  go_loopw [11] (fun s wr => ∃ q : Nat, q ≤ 8 ∧ s = .int .i64 q ∧ ∃ gs, Hid (Grd w wr (w.heap.size + 1) (up q) gs (Fq N q 0)) ∧ Hid (Blk wr w.heap.size 28 #[.int .i64 0, .slice none 0 0])) (fun s _ => 8 - (intOf s).toNat)
  case atStart => exact ⟨0, by omega, rfl, _, G0, K0⟩
  case round =>
    obtain ⟨q, hq, rfl, gs, hG, hK⟩ := hrel
    clear G0 K0
    obtain ⟨wo, rfl⟩ : ∃ wo : World, wo = wr := ⟨_, rfl⟩
    by_cases hlt : q < 8
    · have hqz : (q : Int) < 8 := by omega
      have al := below_al (Below.refl wo.heap.size wo) (.cells (madeCells #[.int .i64 0] 8) 3)
      have G1 := hG.out.keep al
      have c1 := G1.out.cell hlt
      have f1 := G1.out.frozen q
      have eo : outer (up q) gs q = .slice none 0 0 := by simp [outer, up]
      rw [eo] at c1
      have G2 : Hid (Grd w ((wo.alloc (.cells (madeCells #[.int .i64 0] 8) 3)).setCell ⟨w.heap.size + 1, q, none⟩ (.slice (some ⟨wo.heap.size, 0, none⟩) 8 8)) (w.heap.size + 1) (up (q + 1)) (fun i => if i = q then wo.heap.size else gs i) (Fq N q 0)) := Lib.hid (by
        rw [← upd_up q]
        refine G1.put hlt (by simp [up]) ((World.rowIs_made wo (.int .i64 0) 8 3).congr (fun j _ => by simp only [Fq_zero])) hG.out.out.lt (fun i hi ho => ?_) (fun _ _ _ _ _ => rfl)
        have := (hG.out.row i hi ho).lt
        show gs i ≠ wo.heap.size
        omega)
      have K2 : Hid (Blk ((wo.alloc (.cells (madeCells #[.int .i64 0] 8) 3)).setCell ⟨w.heap.size + 1, q, none⟩ (.slice (some ⟨wo.heap.size, 0, none⟩) 8 8)) w.heap.size 28 #[.int .i64 0, .slice none 0 0]) := Lib.hid ((hK.out.alloc _).belowB (B := w.heap.size + 1) (Below.setCell (Below.refl _ _) (show w.heap.size + 1 ≤ (⟨w.heap.size + 1, q, none⟩ : Addr).block from Nat.le_refl _) _) (by omega))
      have c2 := G2.out.out.cell hlt
      have eo2 : outer (up (q + 1)) (fun i => if i = q then wo.heap.size else gs i) q = .slice (some ⟨wo.heap.size, 0, none⟩) 8 8 := by simp [outer, up]
      rw [eo2] at c2
      clear eo eo2 al G1 hG hK
      go_wp2_with fail
      generalize (wo.alloc (.cells (madeCells #[.int .i64 0] 8) 3)).setCell ⟨w.heap.size + 1, q, none⟩ (.slice (some ⟨wo.heap.size, 0, none⟩) 8 8) = W2 at *
      obtain ⟨gt, hgt⟩ : ∃ gt : Nat → Nat, gt = fun i => if i = q then wo.heap.size else gs i := ⟨_, rfl⟩
      have hgq : wo.heap.size = gt q := by rw [hgt]; simp
      rw [← hgt] at G2
      rw [hgq]
      rw [hgq] at c2
      clear c1 f1 hgt hgq
      go_loopw [23] (fun s wr => ∃ c : Nat, c ≤ 8 ∧ s = .int .i64 c ∧ Hid (Grd w wr (w.heap.size + 1) (up (q + 1)) gt (Fq N q c)) ∧ Hid (Blk wr w.heap.size 28 #[.int .i64 0, .slice none 0 0])) (fun s _ => 8 - (intOf s).toNat)
      case atStart => exact ⟨0, by omega, rfl, G2, K2⟩
      case round =>
        obtain ⟨c, hc, rfl, hG, hK⟩ := hrel
        clear G2 K2 c2
        obtain ⟨wj, rfl⟩ : ∃ wo : World, wo = wr := ⟨_, rfl⟩
        by_cases hlc : c < 8
        · have hcz : (c : Int) < 8 := by omega
          have hon : up (q + 1) q = true := by simp [up]
          have x1 := hG.out.out.cell hlt
          have eo : outer (up (q + 1)) gt q = .slice (some ⟨gt q, 0, none⟩) 8 8 := by simp [outer, hon]
          rw [eo] at x1
          have x2 := (hG.out.row q hlt hon).cell hlc
          have ez : Fq N q c q c = 0 := by simp [Fq]
          simp only [ez] at x2
          have f2 := (hG.out.row q hlt hon).frozen c
          have HA := Lib.hid (fun W => at3z q hlt W)
          have HB := Lib.hid (fun W => at3z c hlc W)
          have HC := Lib.hid (fun (W : World) (hW : Below wj.heap.size wj W) => HN.out q c W hlt hlc (below_tr hG.out.below hW))
          clear eo ez
          go_wp2_with fail
          refine last.start (S := fun w' => w'.cell? ⟨w.heap.size + 1, q, none⟩ = some (.slice (some ⟨gt q, 0, none⟩) 8 8) ∧ w'.cell? ⟨gt q, c, none⟩ = some (.int .i64 0) ∧ w'.frozen? ⟨gt q, c, none⟩ = false ∧ Below wj.heap.size wj w') (L := 12) (by kernel_rfl) ?_
          have hHeld := held2f rfl x1 x2 f2 (below_dr (Below.refl _ _))
          refine last.take (i := 0) (oi := { dst := some 26, op := Op.move (Operand.tmp 5), type := 22, pos := "l11_three.go:122", after := #[], guard := none }) (v := ?v0) rfl (by kernel_rfl) (by kernel_rfl) (by kernel_rfl) (by kernel_rfl) (by decide) (fun _ _ _ h => h) (Or.inl ⟨by rfl, ?y0⟩) hHeld ?r0
          case y0 => (intro w hSw; (try dsimp only at hSw); go_simp; try with_reducible rfl)
          try simp only [Act.put, List.setIfInBounds_toArray, List.set_cons_zero, List.set_cons_succ]
          refine last.take (i := 1) (oi := { dst := some 27, op := Op.move (Operand.tmp 6), type := 3, pos := "l11_three.go:122", after := #[], guard := none }) (v := ?v1) rfl (by kernel_rfl) (by kernel_rfl) (by kernel_rfl) (by kernel_rfl) (by decide) (fun _ _ _ h => h) (Or.inl ⟨by rfl, ?y1⟩) hHeld ?r1
          case y1 => (intro w hSw; (try dsimp only at hSw); go_simp; try with_reducible rfl)
          try simp only [Act.put, List.setIfInBounds_toArray, List.set_cons_zero, List.set_cons_succ]
          refine last.take (i := 2) (oi := { dst := some 28, op := Op.indexAddr 22 (Operand.tmp 26) (Operand.tmp 27), type := 0, pos := "l11_three.go:122", after := #[{ on := 0, ground := Ground.data }, { on := 1, ground := Ground.data }], guard := none }) (v := ?v2) rfl (by kernel_rfl) (by kernel_rfl) (by kernel_rfl) (by kernel_rfl) (by decide) (fun _ _ _ h => h) (Or.inl ⟨by rfl, ?y2⟩) hHeld ?r2
          case y2 => (intro w hSw; (try dsimp only at hSw); go_simp; try with_reducible rfl)
          try simp only [Act.put, List.setIfInBounds_toArray, List.set_cons_zero, List.set_cons_succ]
          refine last.take (i := 3) (oi := { dst := some 29, op := Op.load 25 (Operand.tmp 28), type := 25, pos := "l11_three.go:122", after := #[{ on := 2, ground := Ground.data }], guard := none }) (v := ?v3) rfl (by kernel_rfl) (by kernel_rfl) (by kernel_rfl) (by kernel_rfl) (by decide) (fun _ _ _ h => h) (Or.inl ⟨by rfl, ?y3⟩) hHeld ?r3
          case y3 => (intro w hSw; (try dsimp only at hSw); go_simp; try with_reducible rfl)
          try simp only [Act.put, List.setIfInBounds_toArray, List.set_cons_zero, List.set_cons_succ]
          refine last.take (i := 4) (oi := { dst := some 30, op := Op.move (Operand.tmp 7), type := 3, pos := "l11_three.go:122", after := #[], guard := none }) (v := ?v4) rfl (by kernel_rfl) (by kernel_rfl) (by kernel_rfl) (by kernel_rfl) (by decide) (fun _ _ _ h => h) (Or.inl ⟨by rfl, ?y4⟩) hHeld ?r4
          case y4 => (intro w hSw; (try dsimp only at hSw); go_simp; try with_reducible rfl)
          try simp only [Act.put, List.setIfInBounds_toArray, List.set_cons_zero, List.set_cons_succ]
          refine last.take (i := 5) (oi := { dst := some 31, op := Op.move (Operand.tmp 1), type := 68, pos := "l11_three.go:122", after := #[], guard := none }) (v := ?v5) rfl (by kernel_rfl) (by kernel_rfl) (by kernel_rfl) (by kernel_rfl) (by decide) (fun _ _ _ h => h) (Or.inl ⟨by rfl, ?y5⟩) hHeld ?r5
          case y5 => (intro w hSw; (try dsimp only at hSw); go_simp; try with_reducible rfl)
          try simp only [Act.put, List.setIfInBounds_toArray, List.set_cons_zero, List.set_cons_succ]
          refine last.take (i := 6) (oi := { dst := some 32, op := Op.move (Operand.tmp 6), type := 3, pos := "l11_three.go:122", after := #[], guard := none }) (v := ?v6) rfl (by kernel_rfl) (by kernel_rfl) (by kernel_rfl) (by kernel_rfl) (by decide) (fun _ _ _ h => h) (Or.inl ⟨by rfl, ?y6⟩) hHeld ?r6
          case y6 => (intro w hSw; (try dsimp only at hSw); go_simp; try with_reducible rfl)
          try simp only [Act.put, List.setIfInBounds_toArray, List.set_cons_zero, List.set_cons_succ]
          refine last.take (i := 8) (oi := { dst := some 34, op := Op.move (Operand.tmp 7), type := 3, pos := "l11_three.go:122", after := #[], guard := none }) (v := ?v8) rfl (by kernel_rfl) (by kernel_rfl) (by kernel_rfl) (by kernel_rfl) (by decide) (fun _ _ _ h => h) (Or.inl ⟨by rfl, ?y8⟩) hHeld ?r8
          case y8 => (intro w hSw; (try dsimp only at hSw); go_simp; try with_reducible rfl)
          try simp only [Act.put, List.setIfInBounds_toArray, List.set_cons_zero, List.set_cons_succ]
          refine last.one (i := 7) (o := { dst := some 33, op := Op.call { callee := Callee.value (Operand.func 55), args := #[Operand.tmp 32], argTypes := #[3] }, type := 60, pos := "l11_three.go:122", after := #[{ on := 6, ground := Ground.data }], guard := none }) (by kernel_rfl) rfl (fun K hK => ?_)
          go_simp
          (go_at_call 55; (with_reducible refine (HA.out _).mono ?_); rintro e y0 ⟨rfl, hy0⟩)
          refine hK.out _ _ ?s7 (fun hHeld => ?_)
          case s7 => (try dsimp only); (refine held2f rfl x1 x2 f2 ?_; repeat (first | (with_reducible exact Below.refl _ _) | (with_reducible refine below_dr ?_) | (with_reducible refine below_tr ?_ (by assumption))))
          clear hK K
          try simp only [Act.put, List.setIfInBounds_toArray, List.set_cons_zero, List.set_cons_succ]
          refine last.one (i := 9) (o := { dst := some 35, op := Op.call { callee := Callee.value (Operand.func 55), args := #[Operand.tmp 34], argTypes := #[3] }, type := 60, pos := "l11_three.go:122", after := #[{ on := 8, ground := Ground.data }, { on := 7, ground := Ground.chain }], guard := none }) (by kernel_rfl) rfl (fun K hK => ?_)
          go_simp
          (go_at_call 55; (with_reducible refine (HB.out _).mono ?_); rintro e y1 ⟨rfl, hy1⟩)
          refine hK.out _ _ ?s9 (fun hHeld => ?_)
          case s9 => (try dsimp only); (refine held2f rfl x1 x2 f2 ?_; repeat (first | (with_reducible exact Below.refl _ _) | (with_reducible refine below_dr ?_) | (with_reducible refine below_tr ?_ (by assumption))))
          clear hK K
          try simp only [Act.put, List.setIfInBounds_toArray, List.set_cons_zero, List.set_cons_succ]
          refine last.one (i := 10) (o := { dst := some 36, op := Op.call { callee := Callee.value (Operand.tmp 31), args := #[Operand.tmp 33, Operand.tmp 35], argTypes := #[60, 60] }, type := 3, pos := "l11_three.go:122", after := #[{ on := 5, ground := Ground.data }, { on := 7, ground := Ground.data }, { on := 9, ground := Ground.data }, { on := 9, ground := Ground.chain }], guard := none }) (by kernel_rfl) rfl (fun K hK => ?_)
          go_simp
          (go_at_call 34; (with_reducible refine (HC.out _ (by repeat (first | (with_reducible exact Below.refl _ _) | (with_reducible refine below_dr ?_) | (with_reducible refine below_tr ?_ (by assumption))))).mono ?_); rintro e y2 ⟨rfl, hy2⟩)
          refine hK.out _ _ ?s10 (fun hHeld => ?_)
          case s10 => (try dsimp only); (refine held2f rfl x1 x2 f2 ?_; repeat (first | (with_reducible exact Below.refl _ _) | (with_reducible refine below_dr ?_) | (with_reducible refine below_tr ?_ (by assumption))))
          clear hK K
          try simp only [Act.put, List.setIfInBounds_toArray, List.set_cons_zero, List.set_cons_succ]
          refine last.take (i := 11) (oi := { dst := some 37, op := Op.indexAddr 25 (Operand.tmp 29) (Operand.tmp 30), type := 0, pos := "l11_three.go:122", after := #[{ on := 3, ground := Ground.data }, { on := 4, ground := Ground.data }, { on := 0, ground := Ground.phase }, { on := 1, ground := Ground.phase }, { on := 2, ground := Ground.phase }, { on := 3, ground := Ground.phase }, { on := 4, ground := Ground.phase }, { on := 5, ground := Ground.phase }, { on := 6, ground := Ground.phase }, { on := 7, ground := Ground.phase }, { on := 8, ground := Ground.phase }, { on := 9, ground := Ground.phase }, { on := 10, ground := Ground.phase }], guard := none }) (v := ?v11) rfl (by kernel_rfl) (by kernel_rfl) (by kernel_rfl) (by kernel_rfl) (by decide) (fun _ _ _ h => h) (Or.inl ⟨by rfl, ?y11⟩) hHeld ?r11
          case y11 => (intro w hSw; (try dsimp only at hSw); go_simp; try with_reducible rfl)
          try simp only [Act.put, List.setIfInBounds_toArray, List.set_cons_zero, List.set_cons_succ]
          have E9 : Below wj.heap.size wj y2 := below_tr (below_tr (below_tr (below_dr (Below.refl _ _)) hy0) hy1) hy2
          have G9 := Lib.hid (hG.out.keep E9)
          have K9 := Lib.hid (hK.out.below E9)
          obtain ⟨_, q9, f9, _⟩ := hHeld
          have G10 := Lib.hid (G9.out.store hlt hon (N q c) (F' := Fq N q (c + 1)) (fun i j _ _ _ => Fq_step N q c i j))
          have K10 : Hid (Blk (y2.setCell ⟨gt q, c, none⟩ (.int .i64 (N q c))) w.heap.size 28 #[.int .i64 0, .slice none 0 0]) := Lib.hid (K9.out.belowB (B := w.heap.size + 1) (Below.setCell (Below.refl _ _) (show w.heap.size + 1 ≤ (⟨gt q, c, none⟩ : Addr).block from Nat.le_of_lt (G9.out.ge q hlt hon)) _) (by omega))
          clear x1 x2 f2 hy0 hy1 hy2 E9 G9 K9 hG hK HA HB HC
          refine last.final (o := { dst := none, op := Op.store 3 (Operand.tmp 37) (Operand.tmp 36), type := 0, pos := "l11_three.go:122", after := #[{ on := 11, ground := Ground.data }, { on := 10, ground := Ground.data }, { on := 10, ground := Ground.chain }, { on := 0, ground := Ground.phase }, { on := 1, ground := Ground.phase }, { on := 2, ground := Ground.phase }, { on := 3, ground := Ground.phase }, { on := 4, ground := Ground.phase }, { on := 5, ground := Ground.phase }, { on := 6, ground := Ground.phase }, { on := 7, ground := Ground.phase }, { on := 8, ground := Ground.phase }, { on := 9, ground := Ground.phase }, { on := 10, ground := Ground.phase }], guard := none }) (by kernel_rfl) rfl (fun K hK => ?_)
          go_simp
          refine hK.out _ _ ?_
          clear hK K
          try simp only [Act.put, List.setIfInBounds_toArray, List.set_cons_zero, List.set_cons_succ]
          refine last.done (by kernel_rfl) ?_ _
          generalize y2.setCell ⟨gt q, c, none⟩ (.int .i64 (N q c)) = w5 at *
          go_wp2_with fail
          go_roundw
          case rel => exact ⟨c + 1, by omega, by go_num, G10, K10⟩
          case measure => simp [intOf]; omega
        · have hcz : ¬ (c : Int) < 8 := by omega
          obtain rfl : c = 8 := by omega
          go_wp2_with fail
          go_roundw
          case rel => exact ⟨q + 1, by omega, by go_num, gt, Lib.hid (hG.out.congr (fun i j _ hj ho => Fq_next N q i j hj (by simpa [up] using ho))), hK⟩
          case measure => simp [intOf]; omega
    · have hqz : ¬ (q : Int) < 8 := by omega
      obtain rfl : q = 8 := by omega
      have HO := Lib.hid (hG.out.done (fun i hi => by simpa [up] using hi))
      rw [rows8_congr (fun i j hi _ => Fq_all N i j hi)] at HO
      have HB := Lib.hid hG.out.below
      obtain ⟨r0, r1, rl⟩ := two_cells hK.out
      have rf : ∀ k, wo.frozen? ⟨w.heap.size, k, none⟩ = false := fun k => Joins.unfrozen_of_block hK.out k
      clear hG
      go_wp2_with fail
      refine bodyPost_ret (v := .agg #[.int .i64 wh, .slice (some ⟨w.heap.size + 1, 0, none⟩) 8 8]) (by simp [results, Try.results33, go_sem, r0, r1]) rfl ⟨_, rfl, ?_, ?_⟩
      · have hw : Wrote (fun p => p.block = w.heap.size) wo ((wo.setCell ⟨w.heap.size, 0, none⟩ (.int .i64 wh)).setCell ⟨w.heap.size, 1, none⟩ (.slice (some ⟨w.heap.size + 1, 0, none⟩) 8 8)) := Wrote.setCell (S := fun p => p.block = w.heap.size) (Wrote.setCell (S := fun p => p.block = w.heap.size) (Wrote.refl _ _) rfl _) rfl _
        exact (HO.out.wrote hw (fun p hp => .inl (by have e : p.block = w.heap.size := hp; omega))).mono (by omega) (by simp [World.setCell])
      · exact Below.setCell (Below.setCell HB.out (Nat.le_refl _) _) (Nat.le_refl _) _

set_option maxHeartbeats 8000000 in
theorem impl_any (x y wh : Int) (v : Value) (xss : List (List Int)) (vc : Value) (cs : List Int) (most : Int) (w : World) (h : IRows w v xss) (hc : Ints w vc cs) (hn : total xss ≤ 1048576) :
    Calls Try.prog 9 #[.agg #[.int .i64 x, .int .i64 y, .int .i64 wh, v], vc, .int .i64 most] w fun e w' => ∃ u, e = .returned (.tuple #[.agg #[.int .i64 (res x y wh xss cs most).wh, u], .bool (res x y wh xss cs most).ok]) ∧ OwnRows w' w.heap.size w'.heap.size u (res x y wh xss cs most).rows ∧ Below w.heap.size w w' := by
  obtain ⟨va, vn, vcc, rfl⟩ := h.shape
  obtain ⟨ca, cn, ccc, rfl⟩ := hc.shape
  obtain ⟨W0, hW0⟩ : ∃ W, W = (((w.alloc (.cells #[.int .i64 x, .int .i64 y, .int .i64 wh, .slice va vn vcc] 31)).alloc (.cells #[.slice ca cn ccc] 25)).alloc (.cells #[.int .i64 most] 3)).alloc (.cells #[.int .i64 0, .slice none 0 0] 28) := ⟨_, rfl⟩
  have Kb : Hid (Blk W0 w.heap.size 31 #[.int .i64 x, .int .i64 y, .int .i64 wh, .slice va vn vcc]) := Lib.hid (by rw [hW0]; exact (((Blk.new _ _ _).alloc _).alloc _).alloc _)
  have Kc : Hid (Blk W0 (w.heap.size + 1) 25 #[.slice ca cn ccc]) := Lib.hid (by
    rw [hW0]
    have := ((Blk.new (w.alloc (.cells #[.int .i64 x, .int .i64 y, .int .i64 wh, .slice va vn vcc] 31)) 25 #[.slice ca cn ccc]).alloc (.cells #[.int .i64 most] 3)).alloc (.cells #[.int .i64 0, .slice none 0 0] 28)
    simpa using this)
  have Km : Hid (Blk W0 (w.heap.size + 1 + 1) 3 #[.int .i64 most]) := Lib.hid (by
    rw [hW0]
    have := (Blk.new ((w.alloc (.cells #[.int .i64 x, .int .i64 y, .int .i64 wh, .slice va vn vcc] 31)).alloc (.cells #[.slice ca cn ccc] 25)) 3 #[.int .i64 most]).alloc (.cells #[.int .i64 0, .slice none 0 0] 28)
    simpa using this)
  have Kr : Hid (Blk W0 (w.heap.size + 1 + 1 + 1) 28 #[.int .i64 0, .slice none 0 0]) := Lib.hid (by
    rw [hW0]
    have := Blk.new (((w.alloc (.cells #[.int .i64 x, .int .i64 y, .int .i64 wh, .slice va vn vcc] 31)).alloc (.cells #[.slice ca cn ccc] 25)).alloc (.cells #[.int .i64 most] 3)) 28 #[.int .i64 0, .slice none 0 0]
    simpa using this)
  have B0 : Hid (Below w.heap.size w W0) := Lib.hid (by rw [hW0]; exact below_al (below_al (below_al (below_al (Below.refl _ _) _) _) _) _)
  have HA := Lib.hid (h.below B0.out)
  have HC := Lib.hid (hc.below B0.out)
  have HT := ibt x y wh _ xss W0 HA.out hn
  obtain ⟨a0, a1, a2, a3, _⟩ := four_cells Kb.out
  rw [hW0] at a0 a1 a2 a3
  clear h hc
  by_cases h2 : two x y wh xss
  · rw [twoB_yes h2] at HT
    have HT' := Lib.hid HT
    clear HT
    by_cases hm : 1 ≤ most ∧ most ≤ 1000
    · have d1 : decide (most < 1) = false := by simp; omega
      have d2 : decide (1000 < most) = false := by simp; omega
      have HW := Lib.hid (fun (W : World) (hW : Below W0.heap.size W0 W) => play.impl_within _ cs 2 0 most W (HC.out.below hW))
      by_cases hw : within 2 0 most cs
      · rw [withinB_yes hw] at HW
        have HOK := Lib.hid (show good x y wh xss cs most from ⟨h2, hm, hw⟩)
        have hwz := wm_wrap HOK.out
        clear h2 hm hw
        go_enter Try.func9, Try.ntmps9
        go_wp2_with fail
        rw [← hW0]
        clear hW0 a0 a1 a2 a3
        refine HT'.out.mono ?_
        rintro e w1 ⟨rfl, hb⟩
        have E1 := Lib.hid hb
        have m0 := one_cell (Km.out.below hb)
        have n0 := one_cell (Kc.out.below hb)
        obtain ⟨a0, a1, a2, a3, _⟩ := four_cells (Kb.out.below hb)
        clear hb HT'
        go_wp2_with fail
        refine (HW.out w1 E1.out).mono ?_
        rintro e w1' ⟨rfl, rfl⟩
        have al := below_al (Below.refl w1.heap.size w1) (.cells #[Value.func (.func 31) #[] #[.pointer (some ⟨w.heap.size + 1, 0, none⟩), .pointer (some ⟨w.heap.size + 1 + 1, 0, none⟩)]] 57)
        have KF := Lib.hid (Blk.new w1 57 #[Value.func (.func 31) #[] #[.pointer (some ⟨w.heap.size + 1, 0, none⟩), .pointer (some ⟨w.heap.size + 1 + 1, 0, none⟩)]])
        have E2 := Lib.hid (below_tr E1.out al)
        clear al a0 a1 a2 a3 m0 n0 HW
        obtain ⟨a0, a1, a2, a3, _⟩ := four_cells (Kb.out.below E2.out)
        have m0 := one_cell (Km.out.below E2.out)
        have n0 := one_cell (Kc.out.below E2.out)
        have f0 := one_cell KF.out
        have HM := Lib.hid (makes w.heap.size w1.heap.size (wh * most) (NA xss cs most) (w1.alloc (.cells #[Value.func (.func 31) #[] #[.pointer (some ⟨w.heap.size + 1, 0, none⟩), .pointer (some ⟨w.heap.size + 1 + 1, 0, none⟩)]] 57)) (fun q c W hq hc hW => closure w.heap.size (w.heap.size + 1) (w.heap.size + 1 + 1) w1.heap.size x y wh _ _ xss cs most q c W hq hc (below_cell hW _ _ a0) (below_cell hW _ _ a1) (below_cell hW _ _ a2) (below_cell hW _ _ a3) (below_cell hW _ _ f0) (below_cell hW _ _ n0) (below_cell hW _ _ m0) ((HA.out.below E2.out).below hW) ((HC.out.below E2.out).below hW) HOK.out))
        clear f0 n0
        obtain ⟨_, _, a2', _, _⟩ := four_cells (Kb.out.below E1.out)
        have m0' := one_cell (Km.out.below E1.out)
        go_wp2_with fail
        refine HM.out.mono ?_
        rintro e w3 ⟨u, rfl, hu, hb⟩
        obtain ⟨xa, xn, xc, rfl⟩ := hu.rows.shape
        have Z1 : Hid (w.heap.size + 1 + 1 + 1 < (w1.alloc (.cells #[Value.func (.func 31) #[] #[.pointer (some ⟨w.heap.size + 1, 0, none⟩), .pointer (some ⟨w.heap.size + 1 + 1, 0, none⟩)]] 57)).heap.size) := Lib.hid (Kr.out.below E2.out).lt
        by_cases hv : okTrio (wh * most) (rows8 (NA xss cs most))
        · have HV := Lib.hid (tvk.valid_yes (wh * most) _ _ w3 hu.rows (tot_rows8 _) hv)
          have HR := Lib.hid (res_yes ⟨HOK.out, hv⟩)
          have U1 := Lib.hid hu
          have E3 := Lib.hid (below_tr E2.out hb)
          clear hu hb HM hv a0 a1 a2 a3 m0 a2' m0' KF
          go_wp2_with fail
          refine HV.out.mono ?_
          rintro e w4 ⟨rfl, hb⟩
          have K1 := Lib.hid (Kr.out.below (below_tr E3.out hb))
          have U2 := Lib.hid (U1.out.keep hb)
          have B1 := Lib.hid (below_tr B0.out (below_tr E3.out hb))
          have Z2 : Hid (w3.heap.size ≤ w4.heap.size) := Lib.hid hb.size
          obtain ⟨r0, r1, rl⟩ := two_cells K1.out
          have rf : ∀ k, w4.frozen? ⟨w.heap.size + 1 + 1 + 1, k, none⟩ = false := fun k => Joins.unfrozen_of_block K1.out k
          clear hb HV U1
          go_wp2_with fail
          refine bodyPost_ret (v := .tuple #[.agg #[.int .i64 (wh * most), .slice xa xn xc], .bool true]) (by simp [results, Try.results9, go_sem, r0, r1]) rfl ?_
          rw [HR.out]
          refine ⟨_, rfl, ?_, ?_⟩
          · have hw : Wrote (fun p => p.block = w.heap.size + 1 + 1 + 1) w4 ((w4.setCell ⟨w.heap.size + 1 + 1 + 1, 0, none⟩ (.int .i64 (wh * most))).setCell ⟨w.heap.size + 1 + 1 + 1, 1, none⟩ (.slice xa xn xc)) := Wrote.setCell (S := fun p => p.block = w.heap.size + 1 + 1 + 1) (Wrote.setCell (S := fun p => p.block = w.heap.size + 1 + 1 + 1) (Wrote.refl _ _) rfl _) rfl _
            exact (U2.out.wrote hw (fun p hp => .inl (by have e : p.block = w.heap.size + 1 + 1 + 1 := hp; have := Z1.out; omega))).mono (by have := Z1.out; omega) (by have := Z2.out; simp [World.setCell]; omega)
          · exact Below.setCell (Below.setCell B1.out (show w.heap.size ≤ w.heap.size + 1 + 1 + 1 by omega) _) (show w.heap.size ≤ w.heap.size + 1 + 1 + 1 by omega) _
        · have HV := Lib.hid (tvk.valid_no (wh * most) _ _ w3 hu.rows (tot_rows8 _) hv)
          have HR := Lib.hid (res_no (x := x) (y := y) (wh := wh) (fun h => hv h.2))
          have E3 := Lib.hid (below_tr E2.out hb)
          clear hu hb HM hv a0 a1 a2 a3 m0 a2' m0' KF
          go_wp2_with fail
          refine HV.out.mono ?_
          rintro e w4 ⟨rfl, hb⟩
          have K1 := Lib.hid (Kr.out.below (below_tr E3.out hb))
          have B1 := Lib.hid (below_tr B0.out (below_tr E3.out hb))
          obtain ⟨r0, r1, rl⟩ := two_cells K1.out
          have rf : ∀ k, w4.frozen? ⟨w.heap.size + 1 + 1 + 1, k, none⟩ = false := fun k => Joins.unfrozen_of_block K1.out k
          go_wp2_with fail
          refine bodyPost_ret (v := .tuple #[.agg #[.int .i64 0, .slice none 0 0], .bool false]) (by simp [results, Try.results9, go_sem, r0, r1]) rfl ?_
          rw [HR.out]
          refine ⟨_, rfl, OwnRows.nil _ _ _, ?_⟩
          exact Below.setCell (Below.setCell B1.out (show w.heap.size ≤ w.heap.size + 1 + 1 + 1 by omega) _) (show w.heap.size ≤ w.heap.size + 1 + 1 + 1 by omega) _
      · rw [withinB_no hw] at HW
        have HR := Lib.hid (res_no (x := x) (y := y) (wh := wh) (xss := xss) (fun h => hw h.1.2.2))
        clear h2 hm hw
        go_enter Try.func9, Try.ntmps9
        go_wp2_with fail
        rw [← hW0]
        clear hW0 a0 a1 a2 a3
        refine HT'.out.mono ?_
        rintro e w1 ⟨rfl, hb⟩
        have E1 := Lib.hid hb
        have m0 := one_cell (Km.out.below hb)
        have n0 := one_cell (Kc.out.below hb)
        clear hb HT'
        go_wp2_with fail
        refine (HW.out w1 E1.out).mono ?_
        rintro e w1' ⟨rfl, rfl⟩
        have K1 := Lib.hid (Kr.out.below E1.out)
        have B1 := Lib.hid (below_tr B0.out E1.out)
        obtain ⟨r0, r1, rl⟩ := two_cells K1.out
        have rf : ∀ k, w1.frozen? ⟨w.heap.size + 1 + 1 + 1, k, none⟩ = false := fun k => Joins.unfrozen_of_block K1.out k
        go_wp2_with fail
        refine bodyPost_ret (v := .tuple #[.agg #[.int .i64 0, .slice none 0 0], .bool false]) (by simp [results, Try.results9, go_sem, r0, r1]) rfl ?_
        rw [HR.out]
        refine ⟨_, rfl, OwnRows.nil _ _ _, ?_⟩
        exact Below.setCell (Below.setCell B1.out (show w.heap.size ≤ w.heap.size + 1 + 1 + 1 by omega) _) (show w.heap.size ≤ w.heap.size + 1 + 1 + 1 by omega) _
    · have HR := Lib.hid (res_no (x := x) (y := y) (wh := wh) (xss := xss) (cs := cs) (fun h => hm h.1.2.1))
      by_cases hm1 : most < 1
      all_goals
        first
          | have d1 : decide (most < 1) = true := by simp [hm1]
          | have d1 : decide (most < 1) = false := by simp; omega
            have d2 : decide (1000 < most) = true := by simp; omega
        clear h2 hm
        go_enter Try.func9, Try.ntmps9
        go_wp2_with fail
        rw [← hW0]
        clear hW0 a0 a1 a2 a3
        refine HT'.out.mono ?_
        rintro e w1 ⟨rfl, hb⟩
        have E1 := Lib.hid hb
        have m0 := one_cell (Km.out.below hb)
        have K1 := Lib.hid (Kr.out.below E1.out)
        have B1 := Lib.hid (below_tr B0.out E1.out)
        clear hb HT'
        obtain ⟨r0, r1, rl⟩ := two_cells K1.out
        have rf : ∀ k, w1.frozen? ⟨w.heap.size + 1 + 1 + 1, k, none⟩ = false := fun k => Joins.unfrozen_of_block K1.out k
        go_wp2_with fail
        refine bodyPost_ret (v := .tuple #[.agg #[.int .i64 0, .slice none 0 0], .bool false]) (by simp [results, Try.results9, go_sem, r0, r1]) rfl ?_
        rw [HR.out]
        refine ⟨_, rfl, OwnRows.nil _ _ _, ?_⟩
        exact Below.setCell (Below.setCell B1.out (show w.heap.size ≤ w.heap.size + 1 + 1 + 1 by omega) _) (show w.heap.size ≤ w.heap.size + 1 + 1 + 1 by omega) _
  · rw [twoB_no h2] at HT
    have HT' := Lib.hid HT
    have HR := Lib.hid (res_no (cs := cs) (most := most) (fun h => h2 h.1.1))
    clear HT h2
    go_enter Try.func9, Try.ntmps9
    go_wp2_with fail
    rw [← hW0]
    clear hW0 a0 a1 a2 a3
    refine HT'.out.mono ?_
    rintro e w1 ⟨rfl, hb⟩
    have K1 := Lib.hid (Kr.out.below hb)
    have B1 := Lib.hid (below_tr B0.out hb)
    obtain ⟨r0, r1, rl⟩ := two_cells K1.out
    have rf : ∀ k, w1.frozen? ⟨w.heap.size + 1 + 1 + 1, k, none⟩ = false := fun k => Joins.unfrozen_of_block K1.out k
    go_wp2_with fail
    refine bodyPost_ret (v := .tuple #[.agg #[.int .i64 0, .slice none 0 0], .bool false]) (by simp [results, Try.results9, go_sem, r0, r1]) rfl ?_
    rw [HR.out]
    refine ⟨_, rfl, OwnRows.nil _ _ _, ?_⟩
    exact Below.setCell (Below.setCell B1.out (show w.heap.size ≤ w.heap.size + 1 + 1 + 1 by omega) _) (show w.heap.size ≤ w.heap.size + 1 + 1 + 1 by omega) _

end Go.Proofs.Ytomofmmecpdalab.tat
