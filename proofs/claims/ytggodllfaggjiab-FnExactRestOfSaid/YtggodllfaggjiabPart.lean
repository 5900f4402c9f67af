/- PartOf of the model and of the program. -/
import Derived.Test.YtggodllfaggjiabSume
import Derived.Test.YtggodllfaggjiabMaxi
import Derived.Test.YtggodllfaggjiabMost
namespace Go.Proofs.Ytggodllfaggjiab.part
open Go.RowKit Go.Deep Go.Proofs.Ytggodllfaggjiab.base
open Go.Proofs.Ytggodllfaggjiab.ints (ret_int infoInt infoInts)
open Go.Proofs.Ytggodllfaggjiab.rws (total)
open Go.Proofs.Ytggodllfaggjiab.val (okBox okSizes boxB boxB_yes boxB_no)
open Go.Proofs.Ytggodllfaggjiab.two (two twoB twoB_yes twoB_no qt qtB qtB_yes qtB_no)
open Go.Proofs.Ytggodllfaggjiab.sume (up len_up sum8 sum8_bd)
open Go.Proofs.Ytggodllfaggjiab.maxi (bst bst_all bst_lt bst_new bst_old at_ at_get)

def pk (xss : List (List Int)) : Nat := bst (at_ (up xss 8)) 8
def ps (xss : List (List Int)) : Int := at_ (up xss 8) (pk xss)
def share (s wh : Int) : Int := if 0 < s - 2 * wh then (s - 2 * wh) / 2 else 0
theorem share_pos {s wh : Int} (h : 0 < s - 2 * wh) : share s wh = (s - 2 * wh) / 2 := if_pos h
theorem share_no {s wh : Int} (h : ¬ 0 < s - 2 * wh) : share s wh = 0 := if_neg h
theorem pk_lt (xss : List (List Int)) : pk xss < 8 := bst_lt _ (by omega)
theorem at_up (xss : List (List Int)) {j : Nat} (h : j < 8) : at_ (up xss 8) j = sum8 xss j := sume.get_up xss 8 j h
theorem ps_bd {wh : Int} {xss : List (List Int)} (h : okBox 2 2 wh xss) : -8000 ≤ ps xss ∧ ps xss ≤ 8000 := by
  unfold ps
  rw [at_up xss (pk_lt xss)]
  exact sum8_bd h _
open Classical in
noncomputable def res (x y wh : Int) (xss : List (List Int)) : Int × Int × Bool := if qt x y wh xss then ((pk xss : Int), share (ps xss) wh, true) else (0, 0, false)
theorem res_yes {x y wh : Int} {xss : List (List Int)} (h : qt x y wh xss) : res x y wh xss = ((pk xss : Int), share (ps xss) wh, true) := if_pos h
theorem res_no {x y wh : Int} {xss : List (List Int)} (h : ¬ qt x y wh xss) : res x y wh xss = (0, 0, false) := if_neg h

set_option maxHeartbeats 8000000 in
theorem l6part (wh : Int) (v : Value) (xss : List (List Int)) (w : World) (h : IRows w v xss) (hok : okBox 2 2 wh xss) :
    Calls Try.prog 93 #[.agg #[.int .i64 2, .int .i64 2, .int .i64 wh, v]] w fun e w' => e = .returned (.tuple #[.int .i64 (pk xss : Int), .int .i64 (share (ps xss) wh)]) ∧ Below w.heap.size w w' := by
  obtain ⟨va, vn, vc, rfl⟩ := h.shape
  have B0 := Lib.hid (below_al (Below.refl w.heap.size w) (.cells #[.int .i64 2, .int .i64 2, .int .i64 wh, .slice va vn vc] 54))
  have K0 := Lib.hid (Blk.new w 54 #[.int .i64 2, .int .i64 2, .int .i64 wh, .slice va vn vc])
  have HS := Lib.hid (sume.l6sums wh _ xss _ (h.below B0.out) hok)
  have hpb := ps_bd hok
  have hwh := hok.2.1
  have hpl := pk_lt xss
  have HPK := Lib.hid (show pk xss = bst (at_ (up xss 8)) 8 from rfl)
  have HPS := Lib.hid (show ps xss = at_ (up xss 8) (pk xss) from rfl)
  have hl8 := Nat.le_of_eq (len_up xss 8)
  have HL8 := Lib.hid (len_up xss 8)
  generalize up xss 8 = xs at HS HPK HPS hl8 HL8
  generalize ps xss = s at HPS hpb ⊢
  obtain ⟨p0, p1⟩ := hpb
  obtain ⟨w0, w1⟩ := hwh
  clear h hok
  go_enter Try.func93, Try.ntmps93
  go_wp2_with fail
  refine HS.out.mono ?_
  rintro e w1 ⟨u, rfl, hu, hb⟩
  have B1 := Lib.hid (below_tr B0.out hb)
  have K1 := Lib.hid (K0.out.below hb)
  obtain ⟨A, b, o, cap, rfl, hcap, hmax, hA, hc⟩ := hu.form
  obtain rfl := hA (by have := HL8.out; omega)
  have HC := Lib.hid hc
  clear hb HS hu hA hc B0 K0 hmax hcap
  go_wp2_with fail
  go_loopw [5, 6] (fun m i wr => ∃ k : Nat, 1 ≤ k ∧ k ≤ 8 ∧ i = .int .i64 k ∧ (∃ q : Nat, m = .int .i64 q ∧ q < 8 ∧ Hid (q = bst (at_ xs) k)) ∧ ∃ nq, wr = w1.drewN nq) (fun _ i _ => 8 - (intOf i).toNat)
  case atStart => exact ⟨1, by omega, by omega, rfl, ⟨0, rfl, by omega, Lib.hid rfl⟩, 0, rfl⟩
  case round =>
    obtain ⟨k, hk1, hk, rfl, ⟨q, rfl, hq8, hq⟩, nq0, rfl⟩ := hrel
    have hlq : q < xs.length := by have := HL8.out; omega
    have gq := HC.out q hlq
    rw [← at_get hlq] at gq
    have hqz : (q : Int) < (xs.length : Int) := by omega
    by_cases hlt : k < 8
    · have hkl : k < xs.length := by have := HL8.out; omega
      have hkz : (k : Int) < (xs.length : Int) := by omega
      have gk := HC.out k hkl
      rw [← at_get hkl] at gk
      by_cases hn : at_ xs q < at_ xs k
      · have HB : Hid (k = bst (at_ xs) (k + 1)) := Lib.hid (by rw [bst_new (.inr (by rw [← hq.out]; exact hn))])
        generalize at_ xs q = y at gq hn
        generalize at_ xs k = z at gk hn
        have dn : decide (y < z) = true := by simp [hn]
        go_wp2_with fail
        go_quiet (fail)
        go_wp2_with fail
        go_roundw
        case rel => exact ⟨k + 1, by omega, by omega, by go_num, ⟨k, rfl, hlt, HB⟩, _, rfl⟩
        case measure => simp [intOf]; omega
      · have HB : Hid (q = bst (at_ xs) (k + 1)) := Lib.hid (by rw [bst_old (by rw [← hq.out]; omega)]; exact hq.out)
        generalize at_ xs q = y at gq hn
        generalize at_ xs k = z at gk hn
        have dn : decide (y < z) = false := by simp; omega
        go_wp2_with fail
        go_quiet (fail)
        go_wp2_with fail
        go_roundw
        case rel => exact ⟨k + 1, by omega, by omega, by go_num, ⟨q, rfl, hq8, HB⟩, _, rfl⟩
        case measure => simp [intOf]; omega
    · have hk8 : k = 8 := by omega
      have hlz : ¬ (k : Int) < (xs.length : Int) := by have := HL8.out; omega
      have HQ : Hid (q = pk xss) := Lib.hid (by rw [hq.out, hk8]; exact HPK.out.symm)
      have hs : at_ xs q = s := by rw [HQ.out]; exact HPS.out.symm
      rw [hs] at gq
      obtain ⟨c0, c1, c2, c3, c4⟩ := four_cells K1.out
      have k1 : IntKind.i64.wrap (2 * wh) = 2 * wh := IntWalk.i64_in _ (by omega)
      have k2 : IntKind.i64.wrap (s - 2 * wh) = s - 2 * wh := IntWalk.i64_in _ (by omega)
      clear hk8 hs
      by_cases hp : 0 < s - 2 * wh
      · have HM := Lib.hid (fun W => most_fst (s - 2 * wh) 0 W hp)
        have k3 : IntKind.i64.wrap ((s - 2 * wh).tdiv 2) = (s - 2 * wh) / 2 := by rw [Int.tdiv_eq_ediv_of_nonneg (by omega)]; exact IntWalk.i64_in _ (by omega)
        have HE := Lib.hid (share_pos hp)
        clear hp
        go_wp2_with fail
        go_quiet ((go_at_call 137; go_must (exact ints.quiet_at_same (HM.out _))))
        go_wp2_with fail
        go_ret2
        exact ⟨ret_two (by rw [HQ.out]) HE.out.symm, below_drewN (below_drewN B1.out _) _⟩
      · have HM := Lib.hid (fun W => most_snd (s - 2 * wh) 0 W hp)
        have HE := Lib.hid (share_no hp)
        clear hp
        go_wp2_with fail
        go_quiet ((go_at_call 137; go_must (exact ints.quiet_at_same (HM.out _))))
        go_wp2_with fail
        go_ret2
        exact ⟨ret_two (by rw [HQ.out]) HE.out.symm, below_drewN (below_drewN B1.out _) _⟩





set_option maxHeartbeats 4000000 in
theorem impl_any (x y wh : Int) (v : Value) (xss : List (List Int)) (w : World) (h : IRows w v xss) (hn : total xss ≤ 1048576) :
    Calls Try.prog 97 #[.agg #[.int .i64 x, .int .i64 y, .int .i64 wh, v]] w fun e w' => e = .returned (.tuple #[.int .i64 (res x y wh xss).1, .int .i64 (res x y wh xss).2.1, .bool (res x y wh xss).2.2]) ∧ Below w.heap.size w w' := by
  obtain ⟨va, vn, vc, rfl⟩ := h.shape
  have H := Lib.hid h
  have B0 := Lib.hid (below_al (Below.refl w.heap.size w) (.cells #[.int .i64 x, .int .i64 y, .int .i64 wh, .slice va vn vc] 54))
  have K0 := Lib.hid (Blk.new w 54 #[.int .i64 x, .int .i64 y, .int .i64 wh, .slice va vn vc])
  have hr := sume.impl_any x y wh _ xss _ (h.below B0.out) hn
  have HI := Lib.hid (fun W hW => two.iqt x y wh (.slice va vn vc) xss W hW hn)
  clear h
  by_cases ht : two x y wh xss
  · rw [sume.res_yes ht] at hr
    have HR := Lib.hid hr
    clear hr
    by_cases hq : qt x y wh xss
    · rw [qtB_yes hq] at HI
      rw [res_yes hq]
      obtain ⟨hok, rfl, rfl⟩ := ht
      have hpb := ps_bd hok
      have hwh := hok.2.1
      have hba := bst_all (at_ (up xss 8)) 8 (by omega)
      have HPK := Lib.hid (show pk xss = bst (at_ (up xss 8)) 8 from rfl)
      have HPS := Lib.hid (show ps xss = at_ (up xss 8) (pk xss) from rfl)
      have HL8 := Lib.hid (len_up xss 8)
      have hix := fun (v : Value) (W : World) (h : Ints W v (up xss 8)) => maxi.index_at v (up xss 8) (ps xss) (pk xss) W h (by rw [len_up]; exact pk_lt xss) rfl (fun j hj => by
        have := hba.2.2 j hj
        exact Int.ne_of_lt this) (by rw [len_up]; omega)
      have HIX := Lib.hid hix
      have hmx := fun (v : Value) (W : World) (h : Ints W v (up xss 8)) => maxi.max_any v (up xss 8) W h (by rw [len_up]; omega) (by rw [len_up]; omega)
      rw [len_up] at hmx
      have HMX : Hid (∀ (v : Value) (W : World), Ints W v (up xss 8) → Calls Try.prog 159 #[v] W fun e w' => e = .returned (.int .i64 (ps xss)) ∧ W = w') := Lib.hid hmx
      generalize ps xss = s at HPS hpb HIX HMX ⊢
      generalize pk xss = kk at HPK HPS HIX ⊢
      obtain ⟨p0, p1⟩ := hpb
      obtain ⟨w0, w1⟩ := hwh
      clear hok hq hba hix hmx
      go_enter Try.func97, Try.ntmps97
      go_wp2_with fail
      refine HR.out.mono ?_
      rintro e w1 ⟨u, rfl, hu, hb⟩
      obtain ⟨ua, un, uc, rfl⟩ := hu.ints.shape
      have HU := Lib.hid hu.ints
      have B1 := Lib.hid (below_tr B0.out hb)
      have K1 := Lib.hid (K0.out.below hb)
      obtain ⟨c0, c1, c2, c3, c4⟩ := four_cells K1.out
      clear hb HR B0 K0 hu
      go_wp2_with fail
      refine (HI.out _ (H.out.below B1.out)).mono ?_
      rintro e w2 ⟨rfl, hb⟩
      have B2 := Lib.hid (below_tr B1.out hb)
      have K2 := Lib.hid (K1.out.below hb)
      have U2 := Lib.hid (HU.out.below hb)
      clear c0 c1 c2 c3 c4 hb HI
      obtain ⟨c0, c1, c2, c3, c4⟩ := four_cells K2.out
      go_wp2_with fail
      refine (HMX.out _ _ U2.out).mono ?_
      rintro e w3 ⟨rfl, rfl⟩
      by_cases hp : 0 < s - 2 * wh
      · have HE := Lib.hid (share_pos hp)
        have hp' : 0 ≤ s - 2 * wh := by omega
        go_wp2_with fail
        · refine (HIX.out _ _ U2.out).mono ?_
          rintro e w3 ⟨rfl, rfl⟩
          go_wp2_with fail
          refine bodyPost_ret (v := .tuple #[.int .i64 (kk : Int), .int .i64 ((s - 2 * wh) / 2), .bool true]) (by simp [results, Try.results97, go_sem]) rfl ⟨ret_three rfl (HE.out.symm), B2.out⟩
        · refine (HIX.out _ _ U2.out).mono ?_
          rintro e w3 ⟨rfl, rfl⟩
          go_wp2_with fail
          refine bodyPost_ret (v := .tuple #[.int .i64 (kk : Int), .int .i64 0, .bool true]) (by simp [results, Try.results97, go_sem]) rfl ⟨ret_three rfl (by rw [HE.out]; omega), B2.out⟩
      · have HE := Lib.hid (share_no hp)
        have HT := Lib.hid (tdiv_np (x := s - 2 * wh) (by omega))
        go_wp2_with fail
        · exact absurd HT.out (by omega)
        · refine (HIX.out _ _ U2.out).mono ?_
          rintro e w3 ⟨rfl, rfl⟩
          go_wp2_with fail
          refine bodyPost_ret (v := .tuple #[.int .i64 (kk : Int), .int .i64 0, .bool true]) (by simp [results, Try.results97, go_sem]) rfl ⟨ret_three rfl (HE.out.symm), B2.out⟩
    · rw [qtB_no hq] at HI
      rw [res_no hq]
      clear ht hq
      go_enter Try.func97, Try.ntmps97
      go_wp2_with fail
      refine HR.out.mono ?_
      rintro e w1 ⟨u, rfl, hu, hb⟩
      obtain ⟨ua, un, uc, rfl⟩ := hu.ints.shape
      have B1 := Lib.hid (below_tr B0.out hb)
      have K1 := Lib.hid (K0.out.below hb)
      obtain ⟨c0, c1, c2, c3, c4⟩ := four_cells K1.out
      clear hb HR B0 K0 hu
      go_wp2_with fail
      refine (HI.out _ (H.out.below B1.out)).mono ?_
      rintro e w2 ⟨rfl, hb⟩
      have B2 := Lib.hid (below_tr B1.out hb)
      clear hb HI
      go_wp2_with fail
      refine bodyPost_ret (v := .tuple #[.int .i64 0, .int .i64 0, .bool false]) (by simp [results, Try.results97, go_sem]) rfl ⟨rfl, B2.out⟩
  · rw [sume.res_no ht] at hr
    rw [res_no (fun h => ht h.1)]
    have HR := Lib.hid hr
    clear hr ht
    go_enter Try.func97, Try.ntmps97
    go_wp2_with fail
    refine HR.out.mono ?_
    rintro e w1 ⟨u, rfl, hu, hb⟩
    have B1 := Lib.hid (below_tr B0.out hb)
    clear hb HR B0 K0 hu
    go_wp2_with fail
    refine bodyPost_ret (v := .tuple #[.int .i64 0, .int .i64 0, .bool false]) (by simp [results, Try.results97, go_sem]) rfl ⟨rfl, B1.out⟩


end Go.Proofs.Ytggodllfaggjiab.part
