/- FindParityProof of both sides. -/
import Derived.Test.YtkikdecepdbbnaaFpm
import Derived.Test.YtkikdecepdbbnaaLst
namespace Go.Proofs.Ytkikdecepdbbnaa.fps
open Go.RowKit Go.Deep Go.Proofs.Ytkikdecepdbbnaa.base
open Go.Proofs.Ytkikdecepdbbnaa.ints (ret_int infoInt)
open Go.Proofs.Ytkikdecepdbbnaa.rws (total len_le_total)
open Go.Proofs.Ytkikdecepdbbnaa.val (ret_b)
open Go.Proofs.Ytkikdecepdbbnaa.scm
open Go.Proofs.Ytkikdecepdbbnaa.fpm

/-- nil just where the list is empty, and a slice of its own otherwise -/
def Fst (bv : Value) (l : List Int) : Prop := (l = [] ∧ bv = .slice none 0 0) ∨ (¬ l = [] ∧ ∃ g c, bv = .slice (some ⟨g, 0, none⟩) l.length c)
theorem bne0 {l : List Int} (h : ¬ l = []) : ((l.length : Int) == 0) = false := by
  cases l with
  | nil => exact absurd rfl h
  | cons a t => simp; omega


set_option maxRecDepth 100000 in
set_option maxHeartbeats 4000000 in
theorem impl_any (x : Int) (u : Value) (xss : List (List Int)) (v : Value) (ws : List Int) (w : World) (h : scene.GV w v ws u xss) (hm : total xss ≤ 1048576) :
    Calls Try.prog 34 #[.agg #[.int .i64 x, u, v]] w fun e w' => ∃ u', e = .returned (.tuple #[u', .bool (findR x xss ws).2]) ∧ OwnInts w' w.heap.size w'.heap.size u' (findR x xss ws).1 ∧ Below w.heap.size w w' := by
  obtain ⟨A, cap, rfl⟩ : ∃ A c, u = .slice A xss.length c := by obtain ⟨A, b, o, cap, R, hu, _⟩ := h.rows.form; exact ⟨A, cap, hu⟩
  obtain ⟨C, cap', rfl⟩ : ∃ A c, v = .slice A ws.length c := by obtain ⟨A, c, hv, _⟩ := h.ints; exact ⟨A, c, by rw [hv, len_i64s]⟩
  have H := Lib.hid h
  have K0 := Lib.hid (Blk.new w 28 #[.int .i64 x, .slice A xss.length cap, .slice C ws.length cap'])
  have HI := Lib.hid (scv.impl_scene x _ xss _ ws (w.alloc (.cells #[.int .i64 x, .slice A xss.length cap, .slice C ws.length cap'] 28)) (h.below (below_al (Below.refl _ _) _)) hm)
  have heq : ∀ (W : World) (a : Option Addr) (l c : Nat), (binOp .eql 23 (.slice a l c) (.slice none 0 0)).run Try.prog W = .ok (.bool a.isNone) W := fun W a l c => lst.eql_nil W _ _ a l c Try.underlying23
  have hneq : ∀ (W : World) (a : Option Addr) (l c : Nat), (binOp .neq 23 (.slice a l c) (.slice none 0 0)).run Try.prog W = .ok (.bool (!a.isNone)) W := fun W a l c => run_neq_slice_nil W _ _ a l c Try.underlying23
  clear h
  by_cases hok : okScene x xss ws
  · have HI := HI
    rw [sceneB_yes hok] at HI
    rw [findR_yes hok]
    have hx10 := hok.len
    obtain ⟨c, hc⟩ : ∃ c : Nat, 2 ^ xss.length = c := ⟨_, rfl⟩
    have h1024 : c ≤ 1024 := by rw [← hc]; exact two_pow hx10
    have hw : wrap64 (2 ^ xss.length) = (c : Int) := by rw [shl_len hx10, hc]
    have HPL : Hid (∀ d, d < c → places 10 d = places xss.length d) := Lib.hid (fun d hd => by
      have := places_ext (n := xss.length) (d := d) (by rw [hc]; exact hd) (10 - xss.length)
      rw [show xss.length + (10 - xss.length) = 10 by omega] at this
      exact this)
    have HPR := Lib.hid (fun (W : World) (lv : Value) (d : Nat) (hW : Below w.heap.size w W) (hl : Ints W lv (places xss.length d)) => scp.impl_proof x _ xss _ ws lv (places xss.length d) W (H.out.below hW) hl hok (rising_pass xss.length))
    have HLB := Lib.hid (len_best xss ws)
    have HLP := Lib.hid (fun d => len_pass (bitf d) xss.length)
    rw [hc]
    clear hok hc
    obtain ⟨c0, c1, c2, c3⟩ := scene.three_cells K0.out
    go_enter Try.func34, Try.ntmps34
    go_wp2_with fail
    refine HI.out.mono ?_
    rintro e w1 ⟨rfl, hb1⟩
    have B1 := Lib.hid (below_tr (below_al (Below.refl w.heap.size w) _) hb1)
    have K1 := Lib.hid (K0.out.below hb1)
    clear c0 c1 c2 c3 hb1 K0
    obtain ⟨c0, c1, c2, c3⟩ := scene.three_cells K1.out
    have O1 : Hid (OwnInts w1 w.heap.size w1.heap.size (.slice none 0 0) (best xss ws 0) ∧ Fst (.slice none 0 0) (best xss ws 0)) := Lib.hid ⟨OwnInts.nil _ _ _, .inl ⟨rfl, rfl⟩⟩
    go_wp2_with fail
    rw [hw]
    clear c0 c1 c2 c3 hw
    go_loopw [4, 5, 6, 14] (fun bv z5 z6 i wr => ∃ k : Nat, k ≤ c ∧ i = .int .i64 k ∧ (∃ z, z5 = z) ∧ (∃ z, z6 = z) ∧ Hid (OwnInts wr w.heap.size wr.heap.size bv (best xss ws k) ∧ Fst bv (best xss ws k)) ∧ Hid (Below w.heap.size w wr) ∧ Hid (Blk wr w.heap.size 28 #[.int .i64 x, .slice A xss.length cap, .slice C ws.length cap'])) (fun _ _ _ i _ => c - (intOf i).toNat)
    case atStart => exact ⟨0, Nat.zero_le _, rfl, ⟨_, rfl⟩, ⟨_, rfl⟩, O1, B1, K1⟩
    case round =>
      obtain ⟨k, hk, rfl, ⟨y5, rfl⟩, ⟨y6, rfl⟩, hO, hB, hK⟩ := hrel
      clear O1 B1 K1
      obtain ⟨wi, rfl⟩ : ∃ wi : World, wi = wr := ⟨_, rfl⟩
      by_cases hlt : k < c
      · have hkz : (k : Int) < (c : Int) := by omega
        have HPI := Lib.hid (placesIn k wi (by omega))
        rw [HPL.out k hlt] at HPI
        go_wp2_with fail
        refine HPI.out.mono ?_
        rintro e w2 ⟨lv, rfl, hl, hln, hb⟩
        have B2 := Lib.hid (below_tr hB.out hb)
        have K2 := Lib.hid (hK.out.below hb)
        have O2 := Lib.hid (hO.out.1.keep hb)
        have L2 := Lib.hid (hl.mono (B' := w.heap.size) (by have := hB.out.size; omega) (Nat.le_refl _))
        have LN := Lib.hid hln
        have hsz2 := hb.size
        obtain ⟨la, ll, lc, rfl⟩ := hl.ints.shape
        have HP := Lib.hid (HPR.out w2 _ k B2.out L2.out.ints)
        clear hl hln hb HPI
        obtain ⟨c0, c1, c2, c3⟩ := scene.three_cells K2.out
        cases hpf : scr.proofB xss ws (places xss.length k) with
        | false =>
          have HBN := Lib.hid (best_no1 hpf)
          rw [hpf] at HP
          clear hpf
          go_wp2_with fail
          refine HP.out.mono ?_
          rintro e w3 ⟨rfl, hb⟩
          have B3 := Lib.hid (below_tr B2.out hb)
          have K3 := Lib.hid (K2.out.below hb)
          have O3 : Hid (OwnInts w3 w.heap.size w3.heap.size _ (best xss ws (k + 1)) ∧ Fst _ (best xss ws (k + 1))) := Lib.hid (by rw [HBN.out]; exact ⟨(O2.out.keep hb).mono (Nat.le_refl _) (by have := hb.size; omega), hO.out.2⟩)
          clear hb c0 c1 c2 c3
          go_wp2_with fail
          go_roundw
          case rel => exact ⟨k + 1, by omega, by go_num, ⟨_, rfl⟩, ⟨_, rfl⟩, O3, B3, K3⟩
          case measure => simp [intOf]; omega
        | true =>
          have hne : ¬ places xss.length k = [] := fun e => by rw [e, proof_nil] at hpf; cases hpf
          obtain ⟨g, cc, hge⟩ := LN.out hne
          injection hge with v1 v2 v3
          subst v1
          subst v2
          subst v3
          rw [hpf] at HP
          rcases hO.out.2 with ⟨hbe, rfl⟩ | ⟨hbe, g2, cc2, rfl⟩
          · have HBY := Lib.hid (best_yes hpf (.inl hbe))
            have hnl := heq
            clear hpf hbe
            go_wp2_with fail
            refine HP.out.mono ?_
            rintro e w3 ⟨rfl, hb⟩
            have B3 := Lib.hid (below_tr B2.out hb)
            have K3 := Lib.hid (K2.out.below hb)
            have O3 : Hid (OwnInts w3 w.heap.size w3.heap.size (.slice (some ⟨g, 0, none⟩) (places xss.length k).length lc) (best xss ws (k + 1)) ∧ Fst (.slice (some ⟨g, 0, none⟩) (places xss.length k).length lc) (best xss ws (k + 1))) := Lib.hid (by rw [HBY.out]; exact ⟨(L2.out.keep hb).mono (Nat.le_refl _) (by have := hb.size; omega), .inr ⟨hne, _, _, rfl⟩⟩)
            clear hb c0 c1 c2 c3
            go_wp2_with fail
            go_roundw
            case rel => exact ⟨k + 1, by omega, by go_num, ⟨_, rfl⟩, ⟨_, rfl⟩, O3, B3, K3⟩
            case measure => simp [intOf]; omega
          · have HLB1 := HLB.out k
            have HLP1 := HLP.out k
            have HCM := Lib.hid (fun W (hW : Below w2.heap.size w2 W) => comparePlaces _ _ (places xss.length k) (best xss ws k) W (L2.out.ints.below hW) (O2.out.ints.below hW) (by show (pass _ _).length ≤ _; omega) (by omega))
            have HCB := Lib.hid (cmpP_before (places xss.length k) (best xss ws k))
            cases hbf : beforeB (places xss.length k) (best xss ws k) with
            | true =>
              have HBY := Lib.hid (best_yes hpf (.inr hbf))
              have dlt : decide (cmpP (places xss.length k) (best xss ws k) < 0) = true := by rw [HCB.out, hbf]
              clear hpf hbf
              generalize cmpP (places xss.length k) (best xss ws k) = q at *
              go_wp2_with fail
              refine HP.out.mono ?_
              rintro e w3 ⟨rfl, hb⟩
              go_wp2_with fail
              refine (HCM.out _ hb).mono ?_
              rintro e w4 ⟨rfl, hb4⟩
              have hb := below_tr hb hb4
              have B3 := Lib.hid (below_tr B2.out hb)
              have K3 := Lib.hid (K2.out.below hb)
              have O3 : Hid (OwnInts w4 w.heap.size w4.heap.size (.slice (some ⟨g, 0, none⟩) (places xss.length k).length lc) (best xss ws (k + 1)) ∧ Fst (.slice (some ⟨g, 0, none⟩) (places xss.length k).length lc) (best xss ws (k + 1))) := Lib.hid (by rw [HBY.out]; exact ⟨(L2.out.keep hb).mono (Nat.le_refl _) (by have := hb.size; omega), .inr ⟨hne, _, _, rfl⟩⟩)
              clear hb hb4 c0 c1 c2 c3
              go_wp2_with fail
              go_roundw
              case rel => exact ⟨k + 1, by omega, by go_num, ⟨_, rfl⟩, ⟨_, rfl⟩, O3, B3, K3⟩
              case measure => simp [intOf]; omega
            | false =>
              have HBY := Lib.hid (best_no2 hbe hbf)
              have dlt : decide (cmpP (places xss.length k) (best xss ws k) < 0) = false := by rw [HCB.out, hbf]
              clear hpf hbf
              generalize cmpP (places xss.length k) (best xss ws k) = q at *
              go_wp2_with fail
              refine HP.out.mono ?_
              rintro e w3 ⟨rfl, hb⟩
              go_wp2_with fail
              refine (HCM.out _ hb).mono ?_
              rintro e w4 ⟨rfl, hb4⟩
              have hb := below_tr hb hb4
              have B3 := Lib.hid (below_tr B2.out hb)
              have K3 := Lib.hid (K2.out.below hb)
              have O3 : Hid (OwnInts w4 w.heap.size w4.heap.size (.slice (some ⟨g2, 0, none⟩) (best xss ws k).length cc2) (best xss ws (k + 1)) ∧ Fst (.slice (some ⟨g2, 0, none⟩) (best xss ws k).length cc2) (best xss ws (k + 1))) := Lib.hid (by rw [HBY.out]; exact ⟨(O2.out.keep hb).mono (Nat.le_refl _) (by have := hb.size; omega), .inr ⟨hbe, _, _, rfl⟩⟩)
              clear hb hb4 c0 c1 c2 c3
              go_wp2_with fail
              go_roundw
              case rel => exact ⟨k + 1, by omega, by go_num, ⟨_, rfl⟩, ⟨_, rfl⟩, O3, B3, K3⟩
              case measure => simp [intOf]; omega
      · have hkz : ¬ (k : Int) < (c : Int) := by omega
        obtain rfl : k = c := by omega
        have O2 := Lib.hid hO.out.1
        rcases hO.out.2 with ⟨hbe, rfl⟩ | ⟨hbe, g2, cc2, rfl⟩
        · have HD : Hid (posB (best xss ws k) = false) := Lib.hid (by rw [hbe]; rfl)
          clear hbe
          go_wp2_with fail
          go_ret2
          exact ⟨.slice none 0 0, by show Ending.returned (.tuple #[.slice none 0 0, .bool false]) = .returned (.tuple #[.slice none 0 0, .bool (posB (best xss ws k))]); rw [HD.out], O2.out, hB.out⟩
        · have HD : Hid (posB (best xss ws k) = true) := Lib.hid (by have := List.length_pos_iff.2 hbe; unfold posB; simp; omega)
          clear hbe
          go_wp2_with fail
          go_ret2
          exact ⟨.slice (some ⟨g2, 0, none⟩) (best xss ws k).length cc2, by show Ending.returned (.tuple #[.slice (some ⟨g2, 0, none⟩) (best xss ws k).length cc2, .bool true]) = .returned (.tuple #[.slice (some ⟨g2, 0, none⟩) (best xss ws k).length cc2, .bool (posB (best xss ws k))]); rw [HD.out], O2.out, hB.out⟩
  · have HI := HI
    rw [sceneB_no hok] at HI
    rw [findR_no hok]
    clear hok
    obtain ⟨c0, c1, c2, c3⟩ := scene.three_cells K0.out
    go_enter Try.func34, Try.ntmps34
    go_wp2_with fail
    refine HI.out.mono ?_
    rintro e w1 ⟨rfl, hb1⟩
    have B1 := Lib.hid (below_tr (below_al (Below.refl w.heap.size w) _) hb1)
    clear c0 c1 c2 c3 hb1
    go_wp2_with fail
    go_ret2
    exact ⟨_, rfl, OwnInts.nil _ _ _, B1.out⟩


end Go.Proofs.Ytkikdecepdbbnaa.fps
