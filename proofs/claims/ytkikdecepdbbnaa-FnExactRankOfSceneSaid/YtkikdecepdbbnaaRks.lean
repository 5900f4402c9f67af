/- RankOfScene of the model. -/
import Derived.Test.YtkikdecepdbbnaaRkn
import Derived.Test.YtkikdecepdbbnaaFpm
namespace Go.Proofs.Ytkikdecepdbbnaa.rks
open Go.RowKit Go.Deep Go.Proofs.Ytkikdecepdbbnaa.base
open Go.Proofs.Ytkikdecepdbbnaa.ints (ret_int infoInt)
open Go.Proofs.Ytkikdecepdbbnaa.rws (total len_le_total)
open Go.Proofs.Ytkikdecepdbbnaa.scm
open Go.Proofs.Ytkikdecepdbbnaa.rkm
open Go.Proofs.Ytkikdecepdbbnaa.rkn

def nts (F : Nat → Nat) (n : Nat) : List Int := (List.range n).map (fun j => ((F j : Nat) : Int))
theorem len_nts (F : Nat → Nat) (n : Nat) : (nts F n).length = n := by simp [nts]
theorem nts_at (F : Nat → Nat) {n j : Nat} (h : j < n) : (nts F n)[j]'(by rw [len_nts]; exact h) = ((F j : Nat) : Int) := by simp [nts]
theorem nts_set {F F' : Nat → Nat} {n k y : Nat} (hy : F' k = y) (h : ∀ j, j < n → j ≠ k → F' j = F j) : (nts F n).set k ((y : Nat) : Int) = nts F' n := by
  apply List.ext_getElem (by simp [nts])
  intro i h1 h2
  have h3 : i < n := by rw [len_nts] at h2; exact h2
  rw [List.getElem_set]
  by_cases e : k = i
  · subst e
    rw [if_pos rfl, nts_at F' h3, hy]
  · rw [if_neg e, nts_at F h3, nts_at F' h3, h i h3 (fun e2 => e e2.symm)]
theorem nts_congr {F F' : Nat → Nat} {n : Nat} (h : ∀ j, j < n → F j = F' j) : nts F n = nts F' n := by
  apply List.ext_getElem (by simp [nts])
  intro i h1 h2
  have h3 : i < n := by rw [len_nts] at h2; exact h2
  rw [nts_at F h3, nts_at F' h3, h i h3]
theorem own_cell {w : World} {B T b o n cap k : Nat} {xs : List Int} (h : OwnInts w B T (.slice (some ⟨b, o, none⟩) n cap) xs) (hk : k < xs.length) : w.cell? ⟨b, o + k, none⟩ = some (.int .i64 xs[k]) := by
  obtain ⟨A, b', o', c', hv, _, _, hA, hc⟩ := h.ints.form
  injection hv with e1 _ _
  have h4 := hA (by omega)
  rw [← e1] at h4
  injection h4 with h4
  injection h4 with h5 h6
  rw [h5, h6]
  exact hc k hk
theorem own_set {w : World} {B T b o n cap k : Nat} {xs : List Int} (h : OwnInts w B T (.slice (some ⟨b, o, none⟩) n cap) xs) (_hk : k < xs.length) (y : Int) : OwnInts (w.setCell ⟨b, o + k, none⟩ (.int .i64 y)) B T (.slice (some ⟨b, o, none⟩) n cap) (xs.set k y) := by
  obtain ⟨A, c', hv, h1, h2, _⟩ := h.ints
  rw [len_i64s] at hv h1
  injection hv with e1 e2 e3
  subst e2
  subst e3
  refine ⟨⟨some ⟨b, o, none⟩, cap, by rw [len_i64s, List.length_set], by rw [len_i64s, List.length_set]; exact h1, h2, fun j u hu => ?_⟩, h.ge, h.lt, fun p hp => by rw [World.frozen?_setCell]; exact h.free p hp⟩
  have hj : j < xs.length := by
    rcases Nat.lt_or_ge j xs.length with g | g
    · exact g
    · rw [List.getElem?_eq_none (by rw [len_i64s, List.length_set]; exact g)] at hu; cases hu
  rw [get_i64s (by rw [List.length_set]; exact hj)] at hu
  refine ⟨b, o, rfl, ?_⟩
  by_cases e : k = j
  · subst e
    rw [List.getElem_set_self] at hu
    rw [← hu]
    exact World.cell?_setCell_same' _ _ _ (by rw [own_cell h hj]; rfl)
  · rw [List.getElem_set_ne e] at hu
    rw [World.cell?_setCell_other _ _ _ _ (by intro hh; injection hh with _ hh _; omega), ← hu]
    exact own_cell h hj
theorem own_free {w : World} {B T b o n cap k : Nat} {xs : List Int} (h : OwnInts w B T (.slice (some ⟨b, o, none⟩) n cap) xs) (hk : k < n) : w.frozen? ⟨b, o + k, none⟩ = false := h.free _ ⟨b, o, n, cap, rfl, rfl, rfl, by simp, by simp; omega⟩
theorem own_in {w : World} {B T b o n cap : Nat} {xs : List Int} (h : OwnInts w B T (.slice (some ⟨b, o, none⟩) n cap) xs) (hk : 0 < n) : B ≤ b ∧ b < T := ⟨h.ge ⟨b, o, none⟩ ⟨b, o, n, cap, rfl, rfl, rfl, by simp, by simp; omega⟩, h.lt ⟨b, o, none⟩ ⟨b, o, n, cap, rfl, rfl, rfl, by simp, by simp; omega⟩⟩
theorem bit_and {d k : Nat} (h : d < 4096) : bits .and .i64 ((d : Int) / 2 ^ k) 1 = if d.testBit k = true then 1 else 0 := by
  rw [fpm.and_one h, Nat.testBit_eq_decide_div_mod_eq]
  by_cases g : d / 2 ^ k % 2 = 1
  · rw [g]; simp
  · rw [show d / 2 ^ k % 2 = 0 by omega]; simp
theorem clr_start (F : Nat → Nat) (r e j : Nat) : clr F r e (r + 1) j = F j := by unfold clr; rw [if_neg (fun h => by omega)]
theorem clr_now {F : Nat → Nat} {r e t : Nat} : clr F r e t t = F t := by unfold clr; rw [if_neg (fun h => by omega)]
theorem clr_row {F : Nat → Nat} {r e t : Nat} : clr F r e t r = F r := clr_at (Nat.le_refl _)
theorem clr_other {F : Nat → Nat} {r e t j : Nat} (h : j ≠ t) : clr F r e (t + 1) j = clr F r e t j := by
  unfold clr
  have : (r < j ∧ j < t + 1 ∧ (F j).testBit e = true) ↔ (r < j ∧ j < t ∧ (F j).testBit e = true) := ⟨fun hh => ⟨hh.1, by omega, hh.2.2⟩, fun hh => ⟨hh.1, by omega, hh.2.2⟩⟩
  simp only [this]
theorem clr_yes {F : Nat → Nat} {r e t : Nat} (hr : r < t) (h : (F t).testBit e = true) : clr F r e (t + 1) t = F t ^^^ F r := by unfold clr; rw [if_pos ⟨hr, by omega, h⟩]
theorem clr_no {F : Nat → Nat} {r e t : Nat} (h : (F t).testBit e = false) (j : Nat) : clr F r e (t + 1) j = clr F r e t j := by
  by_cases g : j = t
  · subst g
    rw [clr_now]
    unfold clr
    rw [if_neg (fun hh => by rw [h] at hh; cases hh.2.2)]
  · exact clr_other g
theorem mk_bits {x : Int} {xss : List (List Int)} {ws : List Int} (hok : okScene x xss ws) {k : Nat} (hk : k < xss.length) {q : Nat} (hq : x ≤ (q : Int)) : (mk xss k).testBit q = false := by
  unfold mk
  rw [show xss.getD k [] = xss[k] by simp [List.getD, hk]]
  have hr := (hok.ctx k hk).2
  have : ∀ (c : List Int) (m : Nat), (∀ e ∈ c, 0 ≤ e ∧ e ≤ x - 1) → m.testBit q = false → (mask m c).testBit q = false := by
    intro c
    induction c with
    | nil => intro m _ hm; exact hm
    | cons e c ih =>
      intro m hc hm
      refine ih _ (fun e2 h2 => hc e2 (List.mem_cons_of_mem _ h2)) ?_
      have he := hc e List.mem_cons_self
      rw [Nat.testBit_xor, hm, Nat.testBit_two_pow_of_ne (by omega)]; rfl
  exact this _ _ (fun e he => by obtain ⟨j, hj, rfl⟩ := List.mem_iff_getElem.1 he; exact rising_at hr hj) (by simp)
theorem rows_nts (xss : List (List Int)) : scr.rowsOf xss = nts (mk xss) xss.length := by
  apply List.ext_getElem (by simp [scr.rowsOf, nts])
  intro i h1 h2
  have h3 : i < xss.length := by rw [len_nts] at h2; exact h2
  rw [scr.rowsOf_at xss h3, nts_at _ h3]
  unfold mk
  rw [show xss.getD i [] = xss[i] by simp [List.getD, h3]]


set_option maxRecDepth 100000 in
set_option maxHeartbeats 4000000 in
theorem spec_any (x : Int) (u : Value) (xss : List (List Int)) (v : Value) (ws : List Int) (w : World) (h : scene.GV w v ws u xss) (hm : total xss ≤ 1048576) :
    Calls Try.prog 29 #[.agg #[.int .i64 x, u, v]] w fun e w' => e = .returned (.tuple #[.int .i64 (rankR x xss ws).1, .bool (rankR x xss ws).2]) ∧ Below w.heap.size w w' := by
  obtain ⟨A, cap, rfl⟩ : ∃ A c, u = .slice A xss.length c := by obtain ⟨A, b, o, cap, R, hu, _⟩ := h.rows.form; exact ⟨A, cap, hu⟩
  obtain ⟨C, cap', rfl⟩ : ∃ A c, v = .slice A ws.length c := by obtain ⟨A, c, hv, _⟩ := h.ints; exact ⟨A, c, by rw [hv, len_i64s]⟩
  have H := Lib.hid h
  have K0 := Lib.hid (Blk.new w 28 #[.int .i64 x, .slice A xss.length cap, .slice C ws.length cap'])
  have HI := Lib.hid (scv.spec_good x _ xss _ ws (w.alloc (.cells #[.int .i64 x, .slice A xss.length cap, .slice C ws.length cap'] 28)) (h.below (below_al (Below.refl _ _) _)) hm)
  clear h
  by_cases hok : okScene x xss ws
  · have HI := HI
    rw [sceneB_yes hok] at HI
    have HR : Hid (rankR x xss ws = (((basis xss xss.length).length : Int), true)) := Lib.hid (rankR_yes hok)
    have hx10 := hok.len
    obtain ⟨X, hX⟩ : ∃ X : Nat, x = X := ⟨x.toNat, by have := hok.ev0; omega⟩
    have hX12 : X ≤ 12 := by have := hok.ev1; omega
    have HRW := Lib.hid (fun (W : World) (hW : Below w.heap.size w W) => scr.spec_rows x _ xss _ ws W (H.out.below hW) hok)
    have HEND : Hid (∀ F r, St (mks xss xss.length) F xss.length r X → r = (basis xss xss.length).length) := Lib.hid (fun F r hst => by
      obtain ⟨b1, b2, b3, _⟩ := basis_ok xss xss.length
      exact hst.rank (fun a ha q hq => by obtain ⟨k, hk, rfl⟩ := List.mem_map.1 ha; simp at hk; exact mk_bits hok hk (by omega)) b1.tri b2 b3)
    have HST : Hid (St (mks xss xss.length) (mk xss) xss.length 0 0) := Lib.hid (St.start rfl (fun j hj => by
      unfold mk
      rw [show xss.getD j [] = xss[j] by simp [List.getD, hj]]
      exact scr.mask_lt12 (hok.ctx j hj).2 hok.ev1 (by decide)))
    subst hX
    clear hok
    obtain ⟨c0, c1, c2, c3⟩ := scene.three_cells K0.out
    go_enter Try.func29, Try.ntmps29
    go_wp2_with fail
    refine HI.out.mono ?_
    rintro e w1 ⟨rfl, hb1⟩
    have B1 := Lib.hid (below_tr (below_al (Below.refl w.heap.size w) _) hb1)
    have K1 := Lib.hid (K0.out.below hb1)
    clear c0 c1 c2 c3 hb1 K0 HI
    obtain ⟨c0, c1, c2, c3⟩ := scene.three_cells K1.out
    go_wp2_with fail
    refine (HRW.out _ B1.out).mono ?_
    rintro e w2 ⟨ru, rfl, hru, hb2⟩
    have B2 := Lib.hid (below_tr B1.out hb2)
    have K2 := Lib.hid (K1.out.below hb2)
    have hlow := K1.out.lt
    have hru' : OwnInts w2 (w.heap.size + 1) w2.heap.size ru (nts (mk xss) xss.length) := by rw [← rows_nts]; exact hru.mono (by omega) (Nat.le_refl _)
    obtain ⟨RA, rb, ro, rc, hv, _, _, hRA, _⟩ := hru'.ints.form
    rw [len_nts] at hv hRA
    subst hv
    have O2 := Lib.hid hru'
    obtain ⟨hi, hhi⟩ : ∃ hi, w2.heap.size = hi := ⟨_, rfl⟩
    rw [hhi] at O2
    clear c0 c1 c2 c3 hb2 hru hru' HRW B1 K1 hhi hlow
    obtain ⟨R, hR⟩ : ∃ R, mks xss xss.length = R := ⟨_, rfl⟩
    rw [hR] at HST HEND
    obtain ⟨n, hn⟩ : ∃ n, xss.length = n := ⟨_, rfl⟩
    have hn10 : n ≤ 10 := by omega
    have HBS : Hid ((basis xss xss.length).length = (basis xss n).length) := Lib.hid (by rw [hn])
    rw [HBS.out] at HR HEND
    rw [hn] at O2 hRA HST HEND K2 ⊢
    clear hR hn hx10 HBS
    obtain ⟨c0, c1, c2, c3⟩ := scene.three_cells K2.out
    go_wp2_with fail
    clear c0 c1 c2 c3
    go_loopw [5, 6, 7, 8, 9] (fun rk ev z7 z8 z9 wr => ∃ (F : Nat → Nat) (r e : Nat), e ≤ X ∧ r ≤ 10 ∧ ev = .int .i64 e ∧ rk = .int .i64 r ∧ (∃ z, z7 = z) ∧ (∃ z, z8 = z) ∧ (∃ z, z9 = z) ∧ Hid (St R F n r e) ∧ Hid (OwnInts wr (w.heap.size + 1) hi (.slice RA n rc) (nts F n)) ∧ Hid (Below w.heap.size w wr) ∧ Hid (Blk wr w.heap.size 28 #[.int .i64 (X : Int), .slice A n cap, .slice C ws.length cap'])) (fun _ ev _ _ _ _ => X - (intOf ev).toNat)
    case atStart => exact ⟨mk xss, 0, 0, by omega, by omega, rfl, rfl, ⟨_, rfl⟩, ⟨_, rfl⟩, ⟨_, rfl⟩, HST, O2, B2, K2⟩
    case round =>
      obtain ⟨F, r, e, he, hr10, rfl, rfl, ⟨y7, rfl⟩, ⟨y8, rfl⟩, ⟨y9, rfl⟩, hS, hO, hB, hK⟩ := hrel
      clear HST O2 B2 K2
      obtain ⟨wi, rfl⟩ : ∃ wi : World, wi = wr := ⟨_, rfl⟩
      obtain ⟨c0, c1, c2, c3⟩ := scene.three_cells hK.out
      by_cases hlt : e < X
      · have hkz : (e : Int) < (X : Int) := by omega
        have hrn := hS.out.le
        go_wp2_with fail
        clear c0 c1 c2 c3
        go_loopw [7] (fun kv wr => ∃ k : Nat, r ≤ k ∧ k ≤ n ∧ kv = .int .i64 k ∧ Hid (∀ j, r ≤ j → j < k → (F j).testBit e = false) ∧ wi = wr) (fun kv _ => n - (intOf kv).toNat)
        case atStart => exact ⟨r, Nat.le_refl _, hrn, rfl, fun j h1 h2 => by omega, rfl⟩
        case round =>
          obtain ⟨k, hk1, hk2, rfl, hH, rfl⟩ := hrel
          by_cases hkn : k < n
          · have hknz : (k : Int) < (n : Int) := by omega
            obtain rfl := hRA (by omega)
            have hk12 := hS.out.lt k hkn
            have g0 := own_cell hO.out (k := k) (by rw [len_nts]; exact hkn)
            rw [nts_at F hkn] at g0
            have ha := bit_and (k := e) hk12
            cases hb : (F k).testBit e with
            | false =>
              have HH2 : Hid (∀ j, r ≤ j → j < k + 1 → (F j).testBit e = false) := Lib.hid (fun j h1 h2 => by
                by_cases g : j = k
                · subst g; exact hb
                · exact hH.out j h1 (by omega))
              rw [hb] at ha
              simp only [Bool.false_eq_true, if_false] at ha
              clear hb hk12
              generalize F k = f at *
              go_wp2_with fail
              go_roundw
              case rel => exact ⟨k + 1, by omega, by omega, by go_num, HH2, by first | rfl | trivial⟩
              case measure => simp [intOf]; omega
            | true =>
              rw [hb] at ha
              simp only [if_true] at ha
              have HN := Lib.hid (hS.out.step hk1 hkn hb)
              have hrn2 : r < n := by omega
              have hrz : (r : Int) < (n : Int) := by omega
              have g1 := own_cell hO.out (k := r) (by rw [len_nts]; exact hrn2)
              rw [nts_at F hrn2] at g1
              have hin := own_in hO.out (by omega)
              have f0 := own_free hO.out hkn
              have f1 := own_free hO.out hrn2
              have O3 := own_set hO.out (k := k) (by rw [len_nts]; exact hkn) ((F r : Nat) : Int)
              have O4 := own_set O3 (k := r) (by rw [List.length_set, len_nts]; exact hrn2) ((F k : Nat) : Int)
              have e1 : ((nts F n).set k ((F r : Nat) : Int)).set r ((F k : Nat) : Int) = nts (clr (swp F k r) r e (r + 1)) n := by
                rw [nts_set (F := F) (F' := fun j => if j = k then F r else F j) (by simp) (fun j _ hj => by simp [hj])]
                rw [nts_set (F' := swp F k r) (by unfold swp; rw [if_pos rfl]) (fun j _ hj => by unfold swp; rw [if_neg hj])]
                exact nts_congr (fun j _ => (clr_start _ _ _ _).symm)
              rw [e1] at O4
              have O5 := Lib.hid O4
              have hw1 := Wrote.setCell (S := fun p => p.block = rb) (p := (⟨rb, ro + r, none⟩ : Addr)) (Wrote.setCell (S := fun p => p.block = rb) (p := (⟨rb, ro + k, none⟩ : Addr)) (Wrote.refl _ wi) rfl (.int .i64 ((F r : Nat) : Int))) rfl (.int .i64 ((F k : Nat) : Int))
              have B5 := Lib.hid (hB.out.trans (hw1.below (fun p (hp : p.block = rb) => by omega)))
              have K5 := Lib.hid (hK.out.wrote hw1 (fun p (hp : p.block = rb) h => by omega))
              have hrow : swp F k r r = F k := by unfold swp; rw [if_pos rfl]
              have HROW := Lib.hid hrow
              have HSL : Hid (∀ j, j < n → swp F k r j < 4096) := Lib.hid (fun j hj => by obtain ⟨i, hi, e1⟩ := swp_mem (F := F) hkn hrn2 hj; rw [e1]; exact hS.out.lt i hi)
              have hk12b := hS.out.lt k hkn
              have g1b : (wi.setCell ⟨rb, ro + k, none⟩ (.int .i64 ((F r : Nat) : Int))).cell? ⟨rb, ro + r, none⟩ = some (.int .i64 ((F r : Nat) : Int)) := by
                have := own_cell O3 (k := r) (by rw [List.length_set, len_nts]; exact hrn2)
                rw [this]
                congr 2
                by_cases g : k = r
                · subst g; rw [List.getElem_set_self]
                · rw [List.getElem_set_ne g, nts_at F hrn2]
              clear hb hk12 O3 O4 e1 hw1 hH hrow
              generalize hfk : F k = f at *
              generalize F r = f2 at *
              have dn : ((k : Int) == (n : Int)) = false := by simp; omega
              go_wp2_with fail
              clear g0 g1 g1b f0 f1 ha dn
              go_loopw [9] (fun tv wr => ∃ t : Nat, r + 1 ≤ t ∧ t ≤ n ∧ tv = .int .i64 t ∧ Hid (OwnInts wr (w.heap.size + 1) hi (.slice (some ⟨rb, ro, none⟩) n rc) (nts (clr (swp F k r) r e t) n)) ∧ Hid (Below w.heap.size w wr) ∧ Hid (Blk wr w.heap.size 28 #[.int .i64 (X : Int), .slice A n cap, .slice C ws.length cap'])) (fun tv _ => n - (intOf tv).toNat)
              case atStart => exact ⟨r + 1, Nat.le_refl _, by omega, by first | rfl | simp, O5, B5, K5⟩
              case round =>
                clear O5 B5 K5
                obtain ⟨t, ht1, ht2, rfl, hO2, hB2, hK2⟩ := hrel
                obtain ⟨wj, rfl⟩ : ∃ wj : World, wj = wr := ⟨_, rfl⟩
                by_cases htn : t < n
                · have htz : (t : Int) < (n : Int) := by omega
                  have g0 := own_cell hO2.out (k := t) (by rw [len_nts]; exact htn)
                  rw [nts_at _ htn, clr_now] at g0
                  have f0 := own_free hO2.out htn
                  have hft := HSL.out t htn
                  have ha := bit_and (k := e) hft
                  cases hb : (swp F k r t).testBit e with
                  | false =>
                    have HO3 : Hid (OwnInts wj (w.heap.size + 1) hi (.slice (some ⟨rb, ro, none⟩) n rc) (nts (clr (swp F k r) r e (t + 1)) n)) := Lib.hid (by
                      rw [nts_congr (F := clr (swp F k r) r e (t + 1)) (F' := clr (swp F k r) r e t) (fun j _ => clr_no hb j)]; exact hO2.out)
                    rw [hb] at ha
                    simp only [Bool.false_eq_true, if_false] at ha
                    clear hb hft
                    generalize swp F k r t = ft at *
                    go_wp2_with fail
                    go_roundw
                    case rel => exact ⟨t + 1, by omega, by omega, by go_num, HO3, hB2, hK2⟩
                    case measure => simp [intOf]; omega
                  | true =>
                    have O6 := own_set hO2.out (k := t) (by rw [len_nts]; exact htn) ((swp F k r t ^^^ f : Nat) : Int)
                    rw [nts_set (F' := clr (swp F k r) r e (t + 1)) (by rw [clr_yes (by omega) hb, HROW.out]) (fun j _ hj => clr_other hj)] at O6
                    have HO3 := Lib.hid O6
                    have hw1 := Wrote.setCell (S := fun p => p.block = rb) (p := (⟨rb, ro + t, none⟩ : Addr)) (Wrote.refl _ wj) rfl (.int .i64 ((swp F k r t ^^^ f : Nat) : Int))
                    have B6 := Lib.hid (hB2.out.trans (hw1.below (fun p (hp : p.block = rb) => by omega)))
                    have K6 := Lib.hid (hK2.out.wrote hw1 (fun p (hp : p.block = rb) h => by omega))
                    have hx := xor_i64 (swp F k r t) f (by omega) (by omega)
                    rw [hb] at ha
                    simp only [if_true] at ha
                    clear hb hft hw1 O6
                    generalize swp F k r t = ft at *
                    go_wp2_with fail
                    go_roundw
                    case rel => exact ⟨t + 1, by omega, by omega, by go_num, HO3, B6, K6⟩
                    case measure => simp [intOf]; omega
                · have htz : ¬ (t : Int) < (n : Int) := by omega
                  obtain rfl : t = n := by omega
                  go_wp2_with fail
                  go_roundw
                  case rel => exact ⟨clr (swp F k r) r e t, r + 1, e + 1, by omega, by omega, by go_num, by go_num, ⟨_, rfl⟩, ⟨_, rfl⟩, ⟨_, rfl⟩, HN, hO2, hB2, hK2⟩
                  case measure => simp [intOf]; omega
          · have hkn2 : k = n := by omega
            have hknz : ¬ (k : Int) < (n : Int) := by omega
            have dn : ((k : Int) == (n : Int)) = true := by simp; omega
            have HN := Lib.hid (hS.out.skip (fun j h1 h2 => hH.out j h1 (by omega)))
            clear hkn2
            go_wp2_with fail
            go_roundw
            case rel => exact ⟨F, r, e + 1, by omega, by omega, by go_num, rfl, ⟨_, rfl⟩, ⟨_, rfl⟩, ⟨_, rfl⟩, HN, hO, hB, hK⟩
            case measure => simp [intOf]; omega
      · have hkz : ¬ (e : Int) < (X : Int) := by omega
        have hex : e = X := by omega
        have HQ : Hid ((rankR (X : Int) xss ws) = ((r : Int), true)) := Lib.hid (by rw [HR.out, HEND.out F r (hex ▸ hS.out)])
        clear hex
        go_wp2_with fail
        go_ret2
        exact ⟨by rw [HQ.out]; rfl, hB.out⟩
  · have HI := HI
    rw [sceneB_no hok] at HI
    have HR : Hid (rankR x xss ws = (0, false)) := Lib.hid (rankR_no hok)
    clear hok
    obtain ⟨c0, c1, c2, c3⟩ := scene.three_cells K0.out
    go_enter Try.func29, Try.ntmps29
    go_wp2_with fail
    refine HI.out.mono ?_
    rintro e w1 ⟨rfl, hb1⟩
    have B1 := Lib.hid (below_tr (below_al (Below.refl w.heap.size w) _) hb1)
    clear c0 c1 c2 c3 hb1
    go_wp2_with fail
    go_ret2
    exact ⟨by rw [HR.out]; rfl, B1.out⟩


end Go.Proofs.Ytkikdecepdbbnaa.rks
