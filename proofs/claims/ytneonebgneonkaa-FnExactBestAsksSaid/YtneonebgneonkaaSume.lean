/- EightSums of the model and of the program. -/
import Derived.Test.YtneonebgneonkaaAgr
import Derived.Test.YtneonebgneonkaaEqs
import Derived.Test.YtneonebgneonkaaTwoa
import Derived.Deep.RegionHeld3
namespace Go.Proofs.Ytneonebgneonkaa.sume
open Go.RowKit Go.Deep Go.Proofs.Ytneonebgneonkaa.base
open Go.Proofs.Ytneonebgneonkaa.ints (ret_int infoInt infoInts)
open Go.Proofs.Ytneonebgneonkaa.rws (total)
open Go.Proofs.Ytneonebgneonkaa.val (okBox okSizes boxB boxB_yes boxB_no)
open Go.Proofs.Ytneonebgneonkaa.row (nn nn_bd agr at_)
open Go.Proofs.Ytneonebgneonkaa.two (two twoB twoB_yes twoB_no asksB asksB_yes asksB_no)

theorem at_cast (Y a c : Nat) : at_ (Y : Int) (a : Int) (c : Int) = a * Y + c := by
  unfold at_
  have : ((a : Int) * (Y : Int) + (c : Int)) = ((a * Y + c : Nat) : Int) := by simp
  rw [this, Int.toNat_natCast]
def sg (k r : Nat) : Int := 1 - 2 * (eqs.odd k r : Int)
def acc (xss : List (List Int)) (k : Nat) : Nat → Int
  | 0 => 0
  | n + 1 => acc xss k n + sg k n * agr xss n
def sum8 (xss : List (List Int)) (k : Nat) : Int := acc xss k 4
def up (xss : List (List Int)) (n : Nat) : List Int := (List.range n).map (sum8 xss)
theorem up_succ (xss : List (List Int)) (n : Nat) : up xss (n + 1) = up xss n ++ [sum8 xss n] := by simp [up, List.range_succ]
theorem len_up (xss : List (List Int)) (n : Nat) : (up xss n).length = n := by simp [up]
theorem get_up (xss : List (List Int)) (n j : Nat) (h : j < n) : (up xss n).getD j 0 = sum8 xss j := by simp [up, List.getD, h]
open Classical in
noncomputable def res (x y wh : Int) (xss : List (List Int)) : List Int × Bool := if two x y wh xss then (up xss 8, true) else ([], false)
theorem res_yes {x y wh : Int} {xss : List (List Int)} (h : two x y wh xss) : res x y wh xss = (up xss 8, true) := if_pos h
theorem res_no {x y wh : Int} {xss : List (List Int)} (h : ¬ two x y wh xss) : res x y wh xss = ([], false) := if_neg h
theorem len_res (x y wh : Int) (xss : List (List Int)) : (res x y wh xss).1.length ≤ 1048576 := by
  by_cases h : two x y wh xss
  · rw [res_yes h, len_up]; omega
  · rw [res_no h]; simp
theorem agr_bd {x y wh : Int} {xss : List (List Int)} (h : okBox x y wh xss) {r : Nat} (hr : r < xss.length) : -2000 ≤ agr xss r ∧ agr xss r ≤ 2000 := by
  have b0 := nn_bd h hr (k := 0) (by omega)
  have b1 := nn_bd h hr (k := 1) (by omega)
  have b2 := nn_bd h hr (k := 2) (by omega)
  have b3 := nn_bd h hr (k := 3) (by omega)
  unfold agr
  omega
theorem len4 {wh : Int} {xss : List (List Int)} (h : okBox 2 2 wh xss) : xss.length = 4 := by have := h.2.2.1; omega
theorem sgm {d g : Int} (h0 : 0 ≤ d) (h1 : d ≤ 1) (h2 : -2000 ≤ g) (h3 : g ≤ 2000) : -2000 ≤ (1 - 2 * d) * g ∧ (1 - 2 * d) * g ≤ 2000 := by
  obtain rfl | rfl : d = 0 ∨ d = 1 := by omega
  · omega
  · omega
theorem acc_bd {wh : Int} {xss : List (List Int)} (h : okBox 2 2 wh xss) (k : Nat) : ∀ n : Nat, n ≤ 4 → -(2000 * (n : Int)) ≤ acc xss k n ∧ acc xss k n ≤ 2000 * (n : Int)
  | 0, _ => by simp [acc]
  | n + 1, hn => by
    have ih := acc_bd h k n (by omega)
    have ha := agr_bd h (r := n) (by rw [len4 h]; omega)
    have ho := eqs.odd_lt k n
    have hm := sgm (d := (eqs.odd k n : Int)) (by omega) (by omega) ha.1 ha.2
    show -(2000 * ((n + 1 : Nat) : Int)) ≤ acc xss k n + sg k n * agr xss n ∧ acc xss k n + sg k n * agr xss n ≤ 2000 * ((n + 1 : Nat) : Int)
    unfold sg
    omega
theorem sum8_bd {wh : Int} {xss : List (List Int)} (h : okBox 2 2 wh xss) (k : Nat) : -8000 ≤ sum8 xss k ∧ sum8 xss k ≤ 8000 := by
  have := acc_bd h k 4 (by omega)
  unfold sum8
  omega
theorem at2 (a c : Nat) : at_ 2 (a : Int) (c : Int) = 2 * a + c := by
  have := at_cast 2 a c
  have e : at_ ((2 : Nat) : Int) (a : Int) (c : Int) = at_ 2 (a : Int) (c : Int) := rfl
  rw [e] at this
  omega


set_option maxRecDepth 100000 in
set_option maxHeartbeats 8000000 in
theorem l6sums (wh : Int) (v : Value) (xss : List (List Int)) (w : World) (h : IRows w v xss) (hok : okBox 2 2 wh xss) :
    Calls Try.prog 96 #[.agg #[.int .i64 2, .int .i64 2, .int .i64 wh, v]] w fun e w' => ∃ u, e = .returned u ∧ Ints w' u (up xss 8) ∧ Below w.heap.size w w' := by
  obtain ⟨i0, hi, hz0, hz1, hz2⟩ := info_parts infoInt
  obtain ⟨va, vn, vc, rfl⟩ := h.shape
  have H := Lib.hid h
  have HOK := Lib.hid hok
  have B0 := Lib.hid (below_al (below_al (Below.refl w.heap.size w) (.cells #[.int .i64 2, .int .i64 2, .int .i64 wh, .slice va vn vc] 48)) (.cells #[] 3))
  have K0 := Lib.hid ((Blk.new w 48 #[.int .i64 2, .int .i64 2, .int .i64 wh, .slice va vn vc]).alloc (.cells #[] 3))
  have O0 : Hid (((w.alloc (.cells #[.int .i64 2, .int .i64 2, .int .i64 wh, .slice va vn vc] 48)).alloc (.cells #[] 3)).ownsRow (w.heap.size + 1) 3 1 (.slice (some ⟨w.heap.size + 1, 0, none⟩) 0 0) 0 (i64s (up xss 0))) :=
    Lib.hid (by
      have := World.ownsRow_made (base := w.heap.size + 1) (e := 3) (size := 1) (w.alloc (.cells #[.int .i64 2, .int .i64 2, .int .i64 wh, .slice va vn vc] 48)) #[] 0 (by simp) (Nat.zero_le _) rfl
      simpa [i64s, up] using this)
  clear h hok
  go_enter Try.func96, Try.ntmps96
  go_wp2_with fail
  go_loopw [3, 4, 5, 6, 7] (fun out kk _ _ _ wr => ∃ k : Nat, k ≤ 8 ∧ kk = .int .i64 k ∧ Hid (wr.ownsRow (w.heap.size + 1) 3 1 out k (i64s (up xss k))) ∧ Hid (Below w.heap.size w wr) ∧ Hid (Blk wr w.heap.size 48 #[.int .i64 2, .int .i64 2, .int .i64 wh, .slice va vn vc])) (fun _ kk _ _ _ _ => 8 - (intOf kk).toNat)
  case atStart => exact ⟨0, Nat.zero_le _, rfl, O0, B0, K0⟩
  case round =>
    obtain ⟨k, hk, rfl, hO, hB, hK⟩ := hrel
    clear O0 B0 K0
    obtain ⟨wo, rfl⟩ : ∃ wo : World, wo = wr := ⟨_, rfl⟩
    by_cases hlt : k < 8
    · have hkz : (k : Int) < 8 := by omega
      go_wp2_with fail
      go_loopw [5, 6, 7] (fun s x _ wi => ∃ a : Nat, a ≤ 2 ∧ x = .int .i64 a ∧ (∃ m : Int, s = .int .i64 m ∧ Hid (m = acc xss k (2 * a))) ∧ Hid (wi.ownsRow (w.heap.size + 1) 3 1 u3 k (i64s (up xss k))) ∧ Hid (Below w.heap.size w wi) ∧ Hid (Blk wi w.heap.size 48 #[.int .i64 2, .int .i64 2, .int .i64 wh, .slice va vn vc])) (fun _ x _ _ => 2 - (intOf x).toNat)
      case atStart => exact ⟨0, Nat.zero_le _, rfl, ⟨0, rfl, Lib.hid rfl⟩, hO, hB, hK⟩
      case round =>
        obtain ⟨a, ha, rfl, ⟨m, rfl, hm⟩, hO, hB, hK⟩ := hrel
        obtain ⟨wi, rfl⟩ : ∃ wi : World, wi = wr := ⟨_, rfl⟩
        by_cases hlta : a < 2
        · have hka : (a : Int) < 2 := by omega
          go_wp2_with fail
          go_loopw [5, 7] (fun s y wj => ∃ c : Nat, c ≤ 2 ∧ y = .int .i64 c ∧ (∃ m : Int, s = .int .i64 m ∧ Hid (m = acc xss k (2 * a + c))) ∧ Hid (wj.ownsRow (w.heap.size + 1) 3 1 u3 k (i64s (up xss k))) ∧ Hid (Below w.heap.size w wj) ∧ Hid (Blk wj w.heap.size 48 #[.int .i64 2, .int .i64 2, .int .i64 wh, .slice va vn vc])) (fun _ y _ => 2 - (intOf y).toNat)
          case atStart => exact ⟨0, Nat.zero_le _, rfl, ⟨m, rfl, hm⟩, hO, hB, hK⟩
          case round =>
            obtain ⟨c, hc, rfl, ⟨m, rfl, hm⟩, hO, hB, hK⟩ := hrel
            obtain ⟨wj, rfl⟩ : ∃ wj : World, wj = wr := ⟨_, rfl⟩
            obtain ⟨c0, c1, c2, c3, c4⟩ := four_cells hK.out
            by_cases hlc : c < 2
            · have hkc : (c : Int) < 2 := by omega
              have hlen := len4 HOK.out
              have hr4 : 2 * a + c < xss.length := by omega
              have hab := agr_bd HOK.out hr4
              have hac := acc_bd HOK.out k (2 * a + c) (by omega)
              have hmm := hm.out
              have hm0 : -8000 ≤ m := by omega
              have hm1 : m ≤ 8000 := by omega
              have ho := eqs.odd_lt k (2 * a + c)
              have hco := fun W => eqs.l6odd k a c W hlt hlta hlc
              have HRW := Lib.hid (fun (W : World) (hW : Below w.heap.size w W) => row.l2row 2 2 wh (a : Int) (c : Int) _ xss W (H.out.below hW) HOK.out (by omega) (by omega) (by omega) (by omega))
              rw [at2] at HRW
              have hga := fun (u : Value) (W : World) (hu : Ints W u (xss.getD (2 * a + c) [])) => row.l2agree u 2 2 wh xss (2 * a + c) W HOK.out hr4 hu
              have hne : acc xss k (2 * a + (c + 1)) = m + (1 - 2 * (eqs.odd k (2 * a + c) : Int)) * agr xss (2 * a + c) := by rw [hmm]; rfl
              obtain ⟨d, hd⟩ : ∃ d : Int, (eqs.odd k (2 * a + c) : Int) = d := ⟨_, rfl⟩
              obtain ⟨g, hg⟩ : ∃ g : Int, agr xss (2 * a + c) = g := ⟨_, rfl⟩
              have d0 : 0 ≤ d := by omega
              have d1 : d ≤ 1 := by omega
              rw [hd] at hco hne
              rw [hg] at hab hga hne
              obtain ⟨g0, g1⟩ := hab
              obtain ⟨q0, q1⟩ := sgm d0 d1 g0 g1
              have HCO := Lib.hid hco
              have HGA := Lib.hid hga
              have HNE := Lib.hid hne
              clear hlen hr4 hac hmm ho hco hga hne hd hg
              have k1 : IntKind.i64.wrap (2 * d) = 2 * d := IntWalk.i64_in _ (by omega)
              have k2 : IntKind.i64.wrap (1 - 2 * d) = 1 - 2 * d := IntWalk.i64_in _ (by omega)
              have k3 : IntKind.i64.wrap ((1 - 2 * d) * g) = (1 - 2 * d) * g := IntWalk.i64_in _ (by omega)
              have k4 : IntKind.i64.wrap (m + (1 - 2 * d) * g) = m + (1 - 2 * d) * g := IntWalk.i64_in _ (by omega)
              go_wp2_with fail
              go_region_held3 (fun w' => w'.cell? ⟨w.heap.size, 0, none⟩ = some (.int .i64 2) ∧ w'.cell? ⟨w.heap.size, 1, none⟩ = some (.int .i64 2) ∧ w'.cell? ⟨w.heap.size, 2, none⟩ = some (.int .i64 wh) ∧ w'.cell? ⟨w.heap.size, 3, none⟩ = some (.slice va vn vc) ∧ Below wj.heap.size wj w')
                ((refine held4 c0 c1 c2 c3 ?_; repeat (first | exact Below.refl _ _ | assumption | refine below_dr ?_ | refine below_tr ?_ (by assumption))))
                (first
                  | (go_at_call 132; (with_reducible refine (HCO.out _).mono ?_); rintro e w5 ⟨rfl, hwo⟩; subst hwo)
                  | (go_at_call 125; (with_reducible refine (HRW.out _ (below_tr hB.out ?_)).mono ?_); (exact below_dr (Below.refl _ _)); rintro e w6 ⟨u1, rfl, hu1, hb1⟩)
                  | (go_at_call 133; (with_reducible refine (HGA.out _ _ hu1).mono ?_); rintro e w7 ⟨rfl, hb2⟩))
              have hbt := below_tr (below_tr (below_dr (Below.refl _ _)) hb1) hb2
              have B9 := Lib.hid (below_tr hB.out hbt)
              have K9 := Lib.hid (hK.out.below hbt)
              have O9 := Lib.hid (app.owns_below hO.out hbt)
              clear hbt hB hK hO hb1 hb2 hu1 c0 c1 c2 c3 c4 k1 k2 k3 k4
              go_wp2_with fail
              go_roundw
              case rel => exact ⟨c + 1, by omega, by go_num, ⟨_, rfl, Lib.hid HNE.out.symm⟩, O9, B9, K9⟩
              case measure => simp [intOf]; omega
            · have hkc : ¬ (c : Int) < 2 := by omega
              have HM : Hid (m = acc xss k (2 * (a + 1))) := Lib.hid (by rw [hm.out, show 2 * a + c = 2 * (a + 1) from by omega])
              clear c0 c1 c2 c3 c4
              go_wp2_with fail
              go_roundw
              case rel => exact ⟨a + 1, by omega, by go_num, ⟨m, rfl, HM⟩, hO, hB, hK⟩
              case measure => simp [intOf]; omega
        · have hka : ¬ (a : Int) < 2 := by omega
          have HM : Hid (m = sum8 xss k) := Lib.hid (by rw [hm.out, show 2 * a = 4 from by omega]; rfl)
          have hsz := hK.out.lt
          go_wp2_with (at_builtin; go_must (refine wpList_append_own _ rfl (.tmp 35) (.tmp 37) 22 rfl (w.heap.size + 1) 3 i0 (.int .i64 0) 1 8 Try.underlying22 hi hz0 hz1 hz2 rfl (by decide) _ _ _ rfl (hO.out.alloc _) ⟨wi.heap.size, 0, none⟩ 1 1 [.int .i64 m] rfl rfl ?c1 ?c2 ?c3 ?c4 ?c5 ?_))
          try (case c1 => exact app.one_at _ _ _)
          case c2 => first | rfl | (intro u hu; simp at hu; subst hu; rfl)
          case c3 => unfold maxLen; omega
          case c4 => omega
          case c5 => first | omega | (simp; omega)
          intro v' w9 hown' hgrow _
          have B9 := Lib.hid ((below_al hB.out _).grown hgrow (by simp; omega) (fun j hj => Nat.le_of_succ_le (hO.out.lt j hj).1))
          have K9 : Hid (Blk w9 w.heap.size 48 #[.int .i64 2, .int .i64 2, .int .i64 wh, .slice va vn vc]) := Lib.hid ((hgrow.block _ (hK.out.alloc _).lt (by
            intro e
            have := (hO.out.lt _ e.symm).1
            omega)).trans (hK.out.alloc _))
          have O9 : Hid (w9.ownsRow (w.heap.size + 1) 3 1 v' (k + 1) (i64s (up xss (k + 1)))) := Lib.hid (by rw [up_succ, ← app.i64s_snoc, ← HM.out]; exact hown')
          clear hown' hgrow hO hB hK
          go_wp2_with fail
          go_roundw
          case rel => exact ⟨k + 1, by omega, by go_num, O9, B9, K9⟩
          case measure => simp [intOf]; omega
    · have hkz : ¬ (k : Int) < 8 := by omega
      have hk8 : k = 8 := by omega
      have HU := Lib.hid (app.ints_of_owns hO.out).ints
      rw [hk8] at HU
      clear hk8
      go_wp2_with fail
      go_ret
      exact ⟨_, rfl, HU.out, hB.out⟩




/-! ### the program -/
def fil (xss : List (List Int)) (k n j : Nat) : Value := .int .i64 (if j < k then sum8 xss j else if j = k then acc xss k n else 0)
theorem fil_zero (xss : List (List Int)) (j : Nat) : fil xss 0 0 j = .int .i64 0 := by
  unfold fil
  by_cases e : j = 0
  · subst e; simp [acc]
  · simp [e]
theorem fil_next (xss : List (List Int)) (k j : Nat) : fil xss k 4 j = fil xss (k + 1) 0 j := by
  unfold fil
  by_cases h1 : j < k
  · rw [if_pos h1, if_pos (by omega)]
  · rw [if_neg h1]
    by_cases h2 : j = k
    · subst h2; rw [if_pos rfl, if_pos (by omega)]; rfl
    · rw [if_neg h2, if_neg (by omega)]
      by_cases h3 : j = k + 1
      · rw [if_pos h3]; rfl
      · rw [if_neg h3]
theorem fil_step (xss : List (List Int)) (k n j : Nat) : (if j = k then Value.int .i64 (acc xss k (n + 1)) else fil xss k n j) = fil xss k (n + 1) j := by
  unfold fil
  by_cases e : j = k
  · subst e; simp
  · simp [e]

set_option maxRecDepth 100000 in
set_option maxHeartbeats 8000000 in
theorem impl_any (x y wh : Int) (v : Value) (xss : List (List Int)) (w : World) (h : IRows w v xss) (hn : total xss ≤ 1048576) :
    Calls Try.prog 134 #[.agg #[.int .i64 x, .int .i64 y, .int .i64 wh, v]] w fun e w' => ∃ u, e = .returned (.tuple #[u, .bool (res x y wh xss).2]) ∧ OwnInts w' w.heap.size w'.heap.size u (res x y wh xss).1 ∧ Below w.heap.size w w' := by
  obtain ⟨va, vn, vc, rfl⟩ := h.shape
  have B0 := Lib.hid (below_al (Below.refl w.heap.size w) (.cells #[.int .i64 x, .int .i64 y, .int .i64 wh, .slice va vn vc] 48))
  have K0 := Lib.hid (Blk.new w 48 #[.int .i64 x, .int .i64 y, .int .i64 wh, .slice va vn vc])
  have hr := agrs.impl_any x y wh _ xss _ (h.below B0.out) hn
  clear h
  by_cases hok : okBox x y wh xss
  · rw [boxB_yes hok, agrs.data_yes hok] at hr
    have HAS := Lib.hid (two.asks x y)
    have HR := Lib.hid hr
    clear hr
    by_cases h2 : x = 2 ∧ y = 2
    · obtain ⟨rfl, rfl⟩ := h2
      rw [res_yes ⟨hok, rfl, rfl⟩]
      rw [asksB_yes] at HAS
      have HOK := Lib.hid hok
      have hmk : ∀ W : World, (Instr.makeSlice 22 (.int .i64 8) (.int .i64 8)).run Try.prog W = .ok (.slice (some ⟨W.heap.size, 0, none⟩) 8 8) (W.alloc (.cells (madeCells #[.int .i64 0] 8) 3)) := fun W => run_make_row' (P := Try.prog) 22 3 (.int .i64 0) 8 Try.underlying22 infoInt rfl .i64 .i64 8 (by omega) (by omega) W
      clear hok
      go_enter Try.func134, Try.ntmps134
      go_wp2_with fail
      refine HR.out.mono ?_
      rintro e w1 ⟨u, rfl, hu, hb⟩
      have B1 := Lib.hid (below_tr B0.out hb)
      have K1 := Lib.hid (K0.out.below hb)
      have hlen := len4 HOK.out
      rw [hlen] at hu
      obtain ⟨A, b, o, cap, rfl, _, hmax, hA, hcs⟩ := hu.ints.form
      have hl4 := agrs.len_upto xss 4
      obtain rfl := hA (by omega)
      have hcs' : ∀ r, r < 4 → w1.cell? ⟨b, o + r, none⟩ = some (.int .i64 (agr xss r)) := fun r hr => by
        have := hcs r (by omega)
        simpa [agrs.upto] using this
      have HCS := Lib.hid hcs'
      rw [hl4] at *
      obtain ⟨c0, c1, c2, c3, c4⟩ := four_cells K1.out
      clear hb HR B0 K0 hu hcs hA hmax hlen hcs' hl4
      go_wp2_with fail
      refine (HAS.out _).mono ?_
      rintro e w3 ⟨rfl, rfl⟩
      go_wp2_with fail
      clear hmk c0 c1 c2 c3 c4
      have hw1 := B1.out.size
      go_loopw [7, 8, 9, 10, 29, 34] (fun _ _ _ _ i _ wr => ∃ k : Nat, k ≤ 8 ∧ i = .int .i64 k ∧ Hid (Below w1.heap.size w1 wr) ∧ Hid (wr.rowIs w1.heap.size 3 8 (fil xss k 0))) (fun _ _ _ _ i _ _ => 8 - (intOf i).toNat)
      case atStart => exact ⟨0, Nat.zero_le _, rfl, Lib.hid (below_al (Below.refl _ _) _), Lib.hid ((World.rowIs_made w1 _ _ _).congr (fun j _ => (fil_zero xss j).symm))⟩
      case round =>
        obtain ⟨k, hk, rfl, hB, hF⟩ := hrel
        obtain ⟨wo, rfl⟩ : ∃ wo : World, wo = wr := ⟨_, rfl⟩
        by_cases hlt : k < 8
        · have hkz : (k : Int) < 8 := by omega
          go_wp2_with fail
          go_loopw [8, 9, 10, 34] (fun _ _ _ i wr => ∃ r : Nat, r ≤ 4 ∧ i = .int .i64 r ∧ Hid (Below w1.heap.size w1 wr) ∧ Hid (wr.rowIs w1.heap.size 3 8 (fil xss k r))) (fun _ _ _ i _ => 4 - (intOf i).toNat)
          case atStart => exact ⟨0, Nat.zero_le _, rfl, hB, hF⟩
          case round =>
            obtain ⟨r, hr, rfl, hB, hF⟩ := hrel
            obtain ⟨wi, rfl⟩ : ∃ wi : World, wi = wr := ⟨_, rfl⟩
            by_cases hlr : r < 4
            · have hkr : (r : Int) < 4 := by omega
              have gc := below_cell hB.out _ _ (HCS.out r hlr)
              have gs := hF.out.cell hlt
              have gf := hF.out.frozen k
              have hab := agr_bd HOK.out (r := r) (by rw [len4 HOK.out]; omega)
              have hac := acc_bd HOK.out k r (by omega)
              have ho := eqs.odd_lt k r
              have hco := fun W => eqs.oddat k r W hlt hlr
              have hne : acc xss k (r + 1) = acc xss k r + (1 - 2 * (eqs.odd k r : Int)) * agr xss r := rfl
              have hfk : fil xss k r k = .int .i64 (acc xss k r) := by simp [fil]
              rw [hfk] at gs
              obtain ⟨d, hd⟩ : ∃ d : Int, (eqs.odd k r : Int) = d := ⟨_, rfl⟩
              obtain ⟨g, hg⟩ : ∃ g : Int, agr xss r = g := ⟨_, rfl⟩
              obtain ⟨m, hm⟩ : ∃ m : Int, acc xss k r = m := ⟨_, rfl⟩
              have d0 : 0 ≤ d := by omega
              have d1 : d ≤ 1 := by omega
              have m0 : -8000 ≤ m := by omega
              have m1 : m ≤ 8000 := by omega
              rw [hd] at hco hne
              rw [hg] at hab hne gc
              rw [hm] at hne gs
              obtain ⟨g0, g1⟩ := hab
              obtain ⟨q0, q1⟩ := sgm d0 d1 g0 g1
              have HNE := Lib.hid hne
              have HCO := Lib.hid hco
              obtain ⟨p, hp⟩ : ∃ p : Int, (1 - 2 * d) * g = p := ⟨_, rfl⟩
              rw [hp] at HNE q0 q1
              have HP := Lib.hid hp
              have hwp : wrap64 ((1 - 2 * d) * g) = p := by rw [hp]; exact IntWalk.wrap64_in _ (by omega)
              clear hac ho hco hne hd hg hm hfk hp
              go_wp2_with fail
              refine (HCO.out _).mono ?_
              rintro e w5 ⟨rfl, rfl⟩
              go_wp2_with fail
              go_roundw
              case rel =>
                refine ⟨r + 1, by omega, by go_num, Lib.hid (hB.out.setCell (Nat.le_refl _) _), Lib.hid ((hF.out.set k _).congr (fun j hj => ?_))⟩
                rw [← HNE.out]
                exact fil_step xss k r j
              case measure => simp [intOf]; omega
            · have hkr : ¬ (r : Int) < 4 := by omega
              have hr4 : r = 4 := by omega
              have HF : Hid (wi.rowIs w1.heap.size 3 8 (fil xss (k + 1) 0)) := Lib.hid (hF.out.congr (fun j hj => by rw [hr4]; exact fil_next xss k j))
              clear hr4
              go_wp2_with fail
              go_roundw
              case rel => exact ⟨k + 1, by omega, by go_num, hB, HF⟩
              case measure => simp [intOf]; omega
        · have hkz : ¬ (k : Int) < 8 := by omega
          have hk8 : k = 8 := by omega
          have HO : Hid (OwnInts wo w.heap.size wo.heap.size (.slice (some ⟨w1.heap.size, 0, none⟩) 8 8) (up xss 8)) := Lib.hid (by
            have hrw : wo.rowIs w1.heap.size 3 (up xss 8).length (fun j => .int .i64 ((up xss 8).getD j 0)) := by
              rw [len_up]
              refine hF.out.congr (fun j hj => ?_)
              rw [get_up _ _ _ hj, hk8]
              unfold fil
              rw [if_pos hj]
            have := ints.own_of_row hrw hw1 hF.out.lt (by rw [len_up]; unfold maxLen; omega)
            rw [len_up] at this
            exact this)
          clear hk8
          go_wp2_with fail
          go_ret2
          exact ⟨_, rfl, HO.out, below_tr B1.out hB.out⟩
    · rw [res_no (fun h => h2 h.2)]
      rw [asksB_no h2] at HAS
      clear hok h2
      go_enter Try.func134, Try.ntmps134
      go_wp2_with fail
      refine HR.out.mono ?_
      rintro e w1 ⟨u, rfl, hu, hb⟩
      have B1 := Lib.hid (below_tr B0.out hb)
      have K1 := Lib.hid (K0.out.below hb)
      obtain ⟨c0, c1, c2, c3, c4⟩ := four_cells K1.out
      clear hb HR B0 K0 hu
      go_wp2_with fail
      refine (HAS.out _).mono ?_
      rintro e w3 ⟨rfl, rfl⟩
      go_wp2_with fail
      go_ret2
      exact ⟨_, rfl, OwnInts.nil _ _ _, B1.out⟩
  · rw [boxB_no hok, agrs.data_no hok] at hr
    rw [res_no (fun h => hok h.1)]
    have HR := Lib.hid hr
    clear hr hok
    go_enter Try.func134, Try.ntmps134
    go_wp2_with fail
    refine HR.out.mono ?_
    rintro e w1 ⟨u, rfl, hu, hb⟩
    have B1 := Lib.hid (below_tr B0.out hb)
    clear hb HR B0 K0 hu
    go_wp2_with fail
    go_ret2
    exact ⟨_, rfl, OwnInts.nil _ _ _, B1.out⟩


end Go.Proofs.Ytneonebgneonkaa.sume
