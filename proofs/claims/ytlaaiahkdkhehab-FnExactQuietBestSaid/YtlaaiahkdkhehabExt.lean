/- The extreme Boxes: l6Extremes of the model, ExtremeBox of both sides, extremeBoxes of the program. -/
import Derived.Test.YtlaaiahkdkhehabBoxl
import Derived.Test.YtlaaiahkdkhehabEqm
import Derived.Test.YtlaaiahkdkhehabPlays
import Derived.Test.YtlaaiahkdkhehabPboxb
import Derived.Test.YtlaaiahkdkhehabPboxc
namespace Go.Proofs.Ytlaaiahkdkhehab.ext
open Go.RowKit Go.Deep Go.Proofs.Ytlaaiahkdkhehab.base
open Go.Proofs.Ytlaaiahkdkhehab.ints (ret_int infoInt infoInts)
open Go.Proofs.Ytlaaiahkdkhehab.rws (total)
open Go.Proofs.Ytlaaiahkdkhehab.val (okSizes okBox)
open Go.Proofs.Ytlaaiahkdkhehab.boxl (Pl four cells cells_snoc infoBox)

/-- the rows of the extreme Box i -/
def ext (i : Nat) : List (List Int) := if i < 16 then make.rowsOf (pbox.N (plays.at_ 4 i) 2 2 2) 4 else make.rowsOf (eqs.N (i - 16)) 4
def exts (n : Nat) : List (List (List Int)) := (List.range n).map ext
theorem exts_succ (n : Nat) : exts (n + 1) = exts n ++ [ext n] := by simp [exts, List.range_succ]
theorem len_exts (n : Nat) : (exts n).length = n := by simp [exts]
theorem ext_play {i : Nat} (h : i < 16) : ext i = make.rowsOf (pbox.N (plays.at_ 4 i) 2 2 2) 4 := if_pos h
theorem ext_sum {k : Nat} : ext (16 + k) = make.rowsOf (eqs.N k) 4 := by
  unfold ext
  rw [if_neg (by omega), show 16 + k - 16 = k from by omega]
theorem ext_tot (i : Nat) : total (ext i) ≤ 1048576 := by
  unfold ext
  split <;> exact make.total_rowsOf _ _ (by omega)
theorem play_within (i : Nat) : ∀ k (h : k < (plays.at_ 4 i).length), 0 ≤ (plays.at_ 4 i)[k] ∧ (plays.at_ 4 i)[k] ≤ 1 := by
  intro k h
  rw [plays.len_at] at h
  have e : (plays.at_ 4 i)[k]'(by rw [plays.len_at]; exact h) = plays.bit 4 i k := by simp [plays.at_]
  rw [e]
  unfold plays.bit
  omega
theorem play_all (i : Nat) : pbox.all 2 2 (plays.at_ 4 i) 2 := ⟨⟨by omega, by omega⟩, ⟨by rw [plays.len_at]; rfl, play_within i⟩, by omega, by omega⟩
theorem ext_ok (i : Nat) : okBox 2 2 2 (ext i) := by
  unfold ext
  split
  · exact pbox.box_ok (X := 2) (Y := 2) (play_all i)
  · exact eqm.ok _
open Classical in
noncomputable def res (i : Int) : make.Res := if 0 ≤ i ∧ i ≤ 23 then ⟨2, 2, 2, ext i.toNat, true⟩ else make.Res.zero
theorem res_yes {i : Nat} (h : i < 24) : res (i : Int) = ⟨2, 2, 2, ext i, true⟩ := if_pos (by omega)
theorem res_no {i : Int} (h : ¬ (0 ≤ i ∧ i ≤ 23)) : res i = make.Res.zero := if_neg h
theorem tot (i : Int) : total (res i).rows ≤ 1048576 := by
  by_cases h : 0 ≤ i ∧ i ≤ 23
  · rw [show res i = ⟨2, 2, 2, ext i.toNat, true⟩ from if_pos h]; exact ext_tot _
  · rw [res_no h]; exact Nat.zero_le _

theorem irows_at {w : World} {b o n cap : Nat} {xss : List (List Int)} (h : IRows w (.slice (some ⟨b, o, none⟩) n cap) xss) {r : Nat} (hr : r < xss.length) : ∃ u, w.cell? ⟨b, o + r, none⟩ = some u ∧ Ints w u xss[r] := by
  obtain ⟨A, b', o', cap', R, hv, _, _, hA, hc⟩ := h.form
  injection hv with e1 e2 e3
  rw [hA (by omega)] at e1
  injection e1 with e1
  injection e1 with e4 e5
  subst e4 e5
  exact ⟨_, hc r hr⟩
theorem upto_get (k : Nat) (hk : k < 16) : (plays.upto 4 16)[k]'(by rw [plays.len_upto]; exact hk) = plays.at_ 4 k := by simp [plays.upto]
theorem grown_rows {w w' : World} {v pv : Value} {Bp Tp : Nat} {xss : List (List Int)} (h : OwnRows w Bp Tp pv xss) (hT : Tp ≤ w.heap.size) (hg : w.grownBy w' v.ownBlock) (hd : ∀ b, v.ownBlock = some b → b < Bp ∨ Tp ≤ b) : OwnRows w' Bp Tp pv xss :=
  boxl.rows_heap h (fun k hk hk' => hg.block k (Nat.lt_of_lt_of_le hk' hT) (fun e => by have := hd k e.symm; omega))
theorem near {w : World} {v v' : Value} {Bp Tp : Nat} (hT : Tp ≤ w.heap.size) (hd : ∀ b, v.ownBlock = some b → b < Bp ∨ Tp ≤ b) (hl : v'.ownBlock = v.ownBlock ∨ v'.ownBlock = some w.heap.size) : ∀ b, v'.ownBlock = some b → b < Bp ∨ Tp ≤ b := fun b hb => by
  rcases hl with e | e
  · exact hd b (by rw [← e]; exact hb)
  · rw [e] at hb; injection hb with hb; omega


set_option maxRecDepth 100000 in
set_option maxHeartbeats 8000000 in
theorem l6extremes (w : World) :
    Calls Try.prog 116 #[] w fun e w' => ∃ v us, e = .returned v ∧ Pl w w' w.heap.size v us (exts 24) := by
  obtain ⟨s0, si, sz0, sz1, sz2⟩ := info_parts infoBox
  have P0 : Hid (Pl w (w.alloc (.cells #[] 40)) w.heap.size (.slice (some ⟨w.heap.size, 0, none⟩) 0 0) [] (exts 0)) := Lib.hid (by
    refine Pl.start (below_al (Below.refl _ _) _) (Nat.le_refl _) ?_ (by simp)
    have := World.ownsRow_made (base := w.heap.size) (e := 40) (size := 4) w #[] 0 (Nat.le_refl _) (Nat.zero_le _) rfl
    simpa using this)
  go_enter Try.func116, Try.ntmps116
  go_wp2_with fail
  refine (plays.l2plays 2 2 _ ⟨by omega, by omega⟩).mono ?_
  rintro e w1 ⟨pv, rfl, hp, hb⟩
  have P1 := Lib.hid (P0.out.keep hb)
  have HPR := Lib.hid hp
  rw [show plays.all ((2 : Int) + 2).toNat = plays.upto 4 16 from rfl] at HPR
  obtain ⟨A, b, o, cap, R, rfl, hcap, hmax, hA, hc⟩ := HPR.out.rows.form
  have hl16 := Lib.hid (plays.len_upto 4 16)
  obtain rfl := hA (by rw [hl16.out]; omega)
  have hsz1 := hb.size
  have D1 : Hid (∀ q, (Value.slice (some ⟨w.heap.size, 0, none⟩) 0 0).ownBlock = some q → q < w.heap.size + 1 ∨ w1.heap.size ≤ q) := Lib.hid (fun q hq => by simp [Value.ownBlock] at hq; omega)
  have O1 : Hid (OwnRows w1 (w.heap.size + 1) w1.heap.size (.slice (some ⟨b, o, none⟩) (plays.upto 4 16).length cap) (plays.upto 4 16)) := Lib.hid (HPR.out.mono (by simp) (Nat.le_refl _))
  clear hb hp P0 HPR hA hc hmax hcap
  rw [hl16.out] at O1 ⊢
  go_wp2_with fail
  go_loopw [1, 3] (fun v i wr => ∃ k : Nat, k ≤ 16 ∧ i = .int .i64 k ∧ ∃ us, Hid (Pl w wr w.heap.size v us (exts k)) ∧ Hid (OwnRows wr (w.heap.size + 1) w1.heap.size (.slice (some ⟨b, o, none⟩) 16 cap) (plays.upto 4 16)) ∧ Hid (∀ q, v.ownBlock = some q → q < w.heap.size + 1 ∨ w1.heap.size ≤ q) ∧ w1.heap.size ≤ wr.heap.size) (fun _ i _ => 16 - (intOf i).toNat)
  case atStart => exact ⟨0, Nat.zero_le _, rfl, _, P1, O1, D1, Nat.le_refl _⟩
  case round =>
    obtain ⟨k, hk, rfl, us, hP, hO, hD, hS⟩ := hrel
    clear P1 O1 D1
    obtain ⟨wi, rfl⟩ : ∃ wi : World, wi = wr := ⟨_, rfl⟩
    by_cases hlt : k < 16
    · have hkz : (k : Int) < 16 := by omega
      obtain ⟨rk, g0, g1⟩ := irows_at hO.out.rows (r := k) (by rw [hl16.out]; exact hlt)
      rw [upto_get k hlt] at g1
      have HCL := Lib.hid (pbox.l2playbox rk (plays.at_ 4 k) 2 2 2 wi g1 (plays.len_at 4 k) (play_within k) (by omega) (by omega))
      have HCL' : Hid (Calls Try.prog 155 #[.int .i64 2, .int .i64 2, rk, .int .i64 2] wi fun e w' => ∃ r, e = .returned (.agg #[.int .i64 2, .int .i64 2, .int .i64 2, r]) ∧ OwnRows w' (wi.heap.size + 1) w'.heap.size r (ext k) ∧ Below wi.heap.size wi w') := Lib.hid (by rw [ext_play hlt]; exact HCL.out)
      clear HCL g1
      go_wp2_with fail
      refine HCL'.out.mono ?_
      rintro e w2 ⟨u, rfl, hu, hb⟩
      clear HCL' g0
      obtain ⟨ua, ul, uc, rfl⟩ := hu.rows.shape
      have hz := hb.size
      have P2 := Lib.hid ((hP.out.keep hb).keep (below_al (Below.refl _ _) (.cells #[.int .i64 2, .int .i64 2, .int .i64 2, .slice ua ul uc] 40)))
      have U2 := Lib.hid (hu.keep (below_al (Below.refl _ _) (.cells #[.int .i64 2, .int .i64 2, .int .i64 2, .slice ua ul uc] 40)))
      have HAP := Lib.hid (hP.out.apart (m := wi.heap.size + 1) (T := w2.heap.size) (by omega))
      have hw0 := hP.out.below.size
      have HBB := Lib.hid hb
      have hle := Lib.hid (len_exts (k))
      have hown := Lib.hid P2.out.owns
      rw [hle.out] at hown
      have O2 := Lib.hid ((hO.out.keep hb).keep (below_al (Below.refl _ _) (.cells #[.int .i64 2, .int .i64 2, .int .i64 2, .slice ua ul uc] 40)))
      have HS2 : Hid (w1.heap.size ≤ (w2.alloc (.cells #[.int .i64 2, .int .i64 2, .int .i64 2, .slice ua ul uc] 40)).heap.size) := Lib.hid (by simp; omega)
      have HD2 := Lib.hid hD.out
      clear hu hb
      go_wp2_with (at_builtin; go_must (refine boxl.app_lies rfl (.tmp 13) (.tmp 19) 115 rfl w.heap.size 40 s0 (.agg #[.int .i64 0, .int .i64 0, .int .i64 0, .slice none 0 0]) 4 48 Try.underlying115 si sz0 sz1 sz2 rfl (by decide) _ _ _ rfl hown.out ⟨w2.heap.size, 0, none⟩ 1 1 (four (.slice ua ul uc)) rfl rfl ?cx1 ?cx2 ?cx3 ?cx4 ?cx5 (by decide) ?_))
      case cx1 =>
        intro j x hj
        rw [row.opn_add, Joins.cell_of_block (heap_alloc_new w2 _)]
        simpa [four] using hj
      case cx2 => intro x hx; simp [four] at hx; rcases hx with rfl | rfl <;> rfl
      case cx3 => unfold maxLen; omega
      case cx4 => omega
      case cx5 => simp; omega
      intro v' w3 hown' hgrow hlies
      have P3 : Hid (Pl w w3 w.heap.size v' (us ++ [.slice ua ul uc]) (exts (k + 1))) := Lib.hid (by
        rw [exts_succ]
        refine P2.out.grow U2.out (by omega) (by simp) HAP.out ?_ hgrow (by simpa using hlies)
        rw [hle.out]
        exact hown')
      have HG3 := Lib.hid hgrow
      have HL3 : Hid (v'.ownBlock = _ ∨ v'.ownBlock = some (w2.alloc (.cells #[.int .i64 2, .int .i64 2, .int .i64 2, .slice ua ul uc] 40)).heap.size) := Lib.hid (by simpa using hlies)
      clear hgrow hlies
      have O3 := Lib.hid (grown_rows (O2.out) HS2.out HG3.out HD2.out)
      have D3 := Lib.hid (near HS2.out HD2.out HL3.out)
      have S3 : w1.heap.size ≤ w3.heap.size := by have := HG3.out.size; have := HS2.out; simp at *; omega
      obtain ⟨xa, xl, xc, rfl⟩ := boxl.shapez hown'
      clear hown' P2 U2 HAP hown HBB hP hO hD HG3 HL3 O2 HS2 HD2
      go_wp2_with fail
      go_roundw
      case rel => exact ⟨k + 1, by omega, by go_num, _, P3, O3, D3, S3⟩
      case measure => simp [intOf]; omega
    · have hkz : ¬ (k : Int) < 16 := by omega
      have hk16 : k = 16 := by omega
      have P4 : Hid (Pl w wi w.heap.size u1 us (exts (16 + 0))) := Lib.hid (by have := hP.out; rw [hk16] at this; exact this)
      clear hP hO hD hk16 hS hl16
      go_wp2_with fail
      go_loopw [1, 4] (fun v i wr => ∃ k : Nat, k ≤ 8 ∧ i = .int .i64 k ∧ ∃ us, Hid (Pl w wr w.heap.size v us (exts (16 + k)))) (fun _ i _ => 8 - (intOf i).toNat)
      case atStart => exact ⟨0, Nat.zero_le _, rfl, _, P4⟩
      case round =>
        clear P4
        obtain ⟨k, hk, rfl, us, hP⟩ := hrel
        obtain ⟨wi, rfl⟩ : ∃ wi : World, wi = wr := ⟨_, rfl⟩
        by_cases hlt : k < 8
        · have hkz : (k : Int) < 8 := by omega
          have HCL := eqm.l6sum k hlt wi
          rw [← ext_sum] at HCL
          have HCL' := Lib.hid HCL
          clear HCL
          go_wp2_with fail
          refine HCL'.out.mono ?_
          rintro e w2 ⟨u, rfl, hu, hb⟩
          clear HCL'
          obtain ⟨ua, ul, uc, rfl⟩ := hu.rows.shape
          have hz := hb.size
          have P2 := Lib.hid ((hP.out.keep hb).keep (below_al (Below.refl _ _) (.cells #[.int .i64 2, .int .i64 2, .int .i64 2, .slice ua ul uc] 40)))
          have U2 := Lib.hid (hu.keep (below_al (Below.refl _ _) (.cells #[.int .i64 2, .int .i64 2, .int .i64 2, .slice ua ul uc] 40)))
          have HAP := Lib.hid (hP.out.apart (m := wi.heap.size + 1) (T := w2.heap.size) (by omega))
          have hw0 := hP.out.below.size
          have HBB := Lib.hid hb
          have hle := Lib.hid (len_exts (16 + k))
          have hown := Lib.hid P2.out.owns
          rw [hle.out] at hown
          clear hu hb
          go_wp2_with (at_builtin; go_must (refine boxl.app_lies rfl (.tmp 25) (.tmp 28) 115 rfl w.heap.size 40 s0 (.agg #[.int .i64 0, .int .i64 0, .int .i64 0, .slice none 0 0]) 4 48 Try.underlying115 si sz0 sz1 sz2 rfl (by decide) _ _ _ rfl hown.out ⟨w2.heap.size, 0, none⟩ 1 1 (four (.slice ua ul uc)) rfl rfl ?cy1 ?cy2 ?cy3 ?cy4 ?cy5 (by decide) ?_))
          case cy1 =>
            intro j x hj
            rw [row.opn_add, Joins.cell_of_block (heap_alloc_new w2 _)]
            simpa [four] using hj
          case cy2 => intro x hx; simp [four] at hx; rcases hx with rfl | rfl <;> rfl
          case cy3 => unfold maxLen; omega
          case cy4 => omega
          case cy5 => simp; omega
          intro v' w3 hown' hgrow hlies
          have P3 : Hid (Pl w w3 w.heap.size v' (us ++ [.slice ua ul uc]) (exts (16 + k + 1))) := Lib.hid (by
            rw [exts_succ]
            refine P2.out.grow U2.out (by omega) (by simp) HAP.out ?_ hgrow (by simpa using hlies)
            rw [hle.out]
            exact hown')
          have HG3 := Lib.hid hgrow
          have HL3 : Hid (v'.ownBlock = _ ∨ v'.ownBlock = some (w2.alloc (.cells #[.int .i64 2, .int .i64 2, .int .i64 2, .slice ua ul uc] 40)).heap.size) := Lib.hid (by simpa using hlies)
          clear hgrow hlies
          obtain ⟨xa, xl, xc, rfl⟩ := boxl.shapez hown'
          clear hown' P2 U2 HAP hown HBB hP HG3 HL3
          go_wp2_with fail
          go_roundw
          case rel => exact ⟨k + 1, by omega, by go_num, _, P3⟩
          case measure => simp [intOf]; omega
        · have hkz : ¬ (k : Int) < 8 := by omega
          have hk8 : k = 8 := by omega
          obtain ⟨xa, xl, xc, hx⟩ := boxl.shapez hP.out.owns
          subst hx
          have P5 : Hid (Pl w wi w.heap.size (.slice xa xl xc) us (exts 24)) := Lib.hid (by have := hP.out; rw [hk8] at this; exact this)
          clear hP hk8
          go_wp2_with fail
          go_ret
          exact ⟨_, rfl, us, P5.out⟩





set_option maxHeartbeats 4000000 in
theorem impl_any (i : Int) (w : World) :
    Calls Try.prog 178 #[.int .i64 i] w fun e w' => ∃ r, e = .returned (.tuple #[.agg #[.int .i64 (res i).x, .int .i64 (res i).y, .int .i64 (res i).wh, r], .bool (res i).ok]) ∧ OwnRows w' w.heap.size w'.heap.size r (res i).rows ∧ Below w.heap.size w w' := by
  have B0 := Lib.hid (below_al (Below.refl w.heap.size w) (.cells #[.int .i64 0, .int .i64 0, .int .i64 0, .slice none 0 0] 40))
  have R0 := Lib.hid (Blk.new w 40 #[.int .i64 0, .int .i64 0, .int .i64 0, .slice none 0 0])
  by_cases h0 : 0 ≤ i
  · have d0 : decide (i < 0) = false := by simp; omega
    by_cases h1 : i ≤ 23
    · have d1 : decide (24 ≤ i) = false := by simp; omega
      obtain ⟨n, rfl⟩ : ∃ n : Nat, i = n := ⟨i.toNat, by omega⟩
      have HE := Lib.hid (res_yes (i := n) (by omega))
      by_cases h2 : n < 16
      · have d2 : decide ((16 : Int) ≤ (n : Int)) = false := by simp; omega
        have HPL := Lib.hid (fun W => plays.play_at 4 n W (by omega) (by omega))
        have HPB := Lib.hid (fun (v : Value) (W : World) (hv : Ints W v (plays.at_ 4 n)) => pbox.impl_any 2 2 v (plays.at_ 4 n) 2 W hv)
        rw [pbox.res_yes (play_all n)] at HPB
        have HX := Lib.hid (ext_play h2)
        clear h0 h1 h2
        go_enter Try.func178, Try.ntmps178
        go_wp2_with fail
        refine (HPL.out _).mono ?_
        rintro e w1 ⟨pv, rfl, hp, _, hb⟩
        obtain ⟨pa, pl, pc, rfl⟩ := hp.ints.shape
        have HPI := Lib.hid hp.ints
        have B1 := Lib.hid (below_tr B0.out hb)
        have R1 := Lib.hid (R0.out.below hb)
        clear hb hp HPL
        go_wp2_with fail
        refine (HPB.out _ _ HPI.out).mono ?_
        rintro e w2 ⟨u, rfl, hu, hb⟩
        obtain ⟨ua, ul, uc, rfl⟩ := hu.rows.shape
        have hz := B1.out.size
        have hz1 := R1.out.lt
        have HU := Lib.hid hu
        have B2 := Lib.hid (below_tr B1.out hb)
        have R2 := Lib.hid (R1.out.below hb)
        obtain ⟨r0, r1, r2, r3, r4⟩ := four_cells R2.out
        have rf : ∀ k, w2.frozen? ⟨w.heap.size, k, none⟩ = false := fun k => Joins.unfrozen_of_block R2.out k
        clear hb hu HPB B1 R1 HPI
        go_wp2_with fail
        refine bodyPost_ret (v := .tuple #[.agg #[.int .i64 2, .int .i64 2, .int .i64 2, .slice ua ul uc], .bool true]) (by simp [results, Try.results178, go_sem, r0, r1, r2, r3]) rfl ?_
        rw [HE.out]
        refine ⟨_, rfl, ?_, ?_⟩
        · show OwnRows _ _ _ _ (ext n)
          rw [HX.out]
          refine (HU.out.wrote (S := fun p => p.block < w.heap.size + 1) ?_ (fun p hp => .inl (by omega))).mono (by omega) (by simp [World.setCell])
          repeat (first | (with_reducible exact Wrote.refl _ _) | (with_reducible refine Wrote.setCell ?_ (by simp) _))
        · repeat (first | (with_reducible exact B2.out) | (with_reducible refine Below.setCell ?_ (by simp) _))
      · have d2 : decide ((16 : Int) ≤ (n : Int)) = true := by simp; omega
        obtain ⟨m, rfl⟩ : ∃ m, n = 16 + m := ⟨n - 16, by omega⟩
        have hm8 : m < 8 := by omega
        have e1 : ((16 + m : Nat) : Int) - 16 = (m : Int) := by omega
        have HQ := Lib.hid (fun W => eqm.impl_any (m : Int) W)
        rw [eqm.res_yes hm8] at HQ
        have HX := Lib.hid (ext_sum (k := m))
        have hj : ((16 + m : Nat) : Int) = 16 + (m : Int) := by omega
        obtain ⟨jj, hjj⟩ : ∃ jj : Int, jj = ((16 + m : Nat) : Int) := ⟨_, rfl⟩
        have jb0 : 16 ≤ jj := by omega
        have jb1 : jj ≤ 23 := by omega
        have HJ : Hid (jj - 16 = (m : Int)) := Lib.hid (by omega)
        rw [← hjj] at HE d0 d1 d2 ⊢
        clear h0 h1 h2 hm8 e1 hj hjj
        go_enter Try.func178, Try.ntmps178
        go_wp2_with fail
        rw [HJ.out]
        refine (HQ.out _).mono ?_
        rintro e w2 ⟨u, rfl, hu, hb⟩
        obtain ⟨ua, ul, uc, rfl⟩ := hu.rows.shape
        have HU := Lib.hid hu
        have B2 := Lib.hid (below_tr B0.out hb)
        have R2 := Lib.hid (R0.out.below hb)
        obtain ⟨r0, r1, r2, r3, r4⟩ := four_cells R2.out
        have rf : ∀ k, w2.frozen? ⟨w.heap.size, k, none⟩ = false := fun k => Joins.unfrozen_of_block R2.out k
        clear hb hu HQ B0 R0
        go_wp2_with fail
        refine bodyPost_ret (v := .tuple #[.agg #[.int .i64 2, .int .i64 2, .int .i64 2, .slice ua ul uc], .bool true]) (by simp [results, Try.results178, go_sem, r0, r1, r2, r3]) rfl ?_
        rw [HE.out]
        refine ⟨_, rfl, ?_, ?_⟩
        · show OwnRows _ _ _ _ (ext (16 + m))
          rw [HX.out]
          refine (HU.out.wrote (S := fun p => p.block < w.heap.size + 1) ?_ (fun p hp => .inl (by simp; omega))).mono (by simp) (by simp [World.setCell])
          repeat (first | (with_reducible exact Wrote.refl _ _) | (with_reducible refine Wrote.setCell ?_ (by simp) _))
        · repeat (first | (with_reducible exact B2.out) | (with_reducible refine Below.setCell ?_ (by simp) _))
    · have d1 : decide (24 ≤ i) = true := by simp; omega
      have HE := Lib.hid (res_no (i := i) (fun h => h1 h.2))
      clear h0 h1 R0
      go_enter Try.func178, Try.ntmps178
      go_wp2_with fail
      refine bodyPost_ret (v := .tuple #[.agg #[.int .i64 0, .int .i64 0, .int .i64 0, .slice none 0 0], .bool false]) (by simp [results, Try.results178, go_sem]) rfl ?_
      rw [HE.out]
      refine ⟨_, rfl, OwnRows.nil _ _ _, ?_⟩
      repeat (first | (with_reducible exact B0.out) | (with_reducible refine Below.setCell ?_ (by simp) _))
  · have d0 : decide (i < 0) = true := by simp; omega
    have HE := Lib.hid (res_no (i := i) (fun h => h0 h.1))
    clear h0 R0
    go_enter Try.func178, Try.ntmps178
    go_wp2_with fail
    refine bodyPost_ret (v := .tuple #[.agg #[.int .i64 0, .int .i64 0, .int .i64 0, .slice none 0 0], .bool false]) (by simp [results, Try.results178, go_sem]) rfl ?_
    rw [HE.out]
    refine ⟨_, rfl, OwnRows.nil _ _ _, ?_⟩
    repeat (first | (with_reducible exact B0.out) | (with_reducible refine Below.setCell ?_ (by simp) _))


end Go.Proofs.Ytlaaiahkdkhehab.ext
