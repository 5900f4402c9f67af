/- SumFunctional of the program. -/
import Derived.Test.YtimfnhejiiagmaaSfn
import Derived.Test.YtimfnhejiiagmaaQix
import Derived.Test.YtimfnhejiiagmaaPile
import Derived.Test.YtimfnhejiiagmaaMake
import Derived.Test.YtimfnhejiiagmaaLast
import Derived.Deep.RegionWith
namespace Go.Proofs.Ytimfnhejiiagmaa.sfp
open Go.RowKit Go.Deep Go.Proofs.Ytimfnhejiiagmaa.base
open Go.Proofs.Ytimfnhejiiagmaa.ints (ret_int infoInt infoInts)
open Go.Proofs.Ytimfnhejiiagmaa.val (okSizes ret_b)
open Go.Proofs.Ytimfnhejiiagmaa.prs
open Go.Proofs.Ytimfnhejiiagmaa.prt (two_cells)
open Go.Proofs.Ytimfnhejiiagmaa.qfo (okFour)
open Go.Proofs.Ytimfnhejiiagmaa.sfm
open Go.Proofs.Ytimfnhejiiagmaa.sfn (three kl D kv keyed Keep signs)

theorem owns_below {w w' : World} {b n : Nat} {E : DataW Unit} {k : TypeId} {R : Value → Option (DataW Unit × List MemPlace)} (h : w.ownsMap Try.prog k R b n E) (hb : Below w.heap.size w w') : w'.ownsMap Try.prog k R b n E :=
  h.kept (row := none) ⟨hb.os, hb.tape, hb.output, hb.size, fun k hk _ => hb.block k hk⟩ (by simp)


theorem signs' (a b c d m : Int) (ha : three a) (hb : three b) (hc : three c) (hd : three d) (w : World) :
    Calls Try.prog 206 #[.agg #[.int .i64 a, .int .i64 b], .agg #[.int .i64 c, .int .i64 d], .int .i64 m] w fun e w' => ∃ bk, e = .returned (.map (some bk)) ∧ w'.ownsMap Try.prog 26 (Go.plainElem (H := Unit) Try.prog 3) bk 4 (D a b c d m 4) ∧ Below w.heap.size w w' :=
  (signs a b c d m ha hb hc hd w).mono (fun _ _ h => ⟨_, h.1, h.2.owns, h.2.below⟩)

set_option maxRecDepth 100000 in
set_option maxHeartbeats 8000000 in
theorem impl_any (x y a b c d m : Int) (w : World) :
    Calls Try.prog 181 #[.int .i64 x, .int .i64 y, .agg #[.int .i64 a, .int .i64 b], .agg #[.int .i64 c, .int .i64 d], .int .i64 m] w fun e w' =>
      ∃ u', e = .returned (.tuple #[u', .bool (res x y a b c d m).2]) ∧ OwnRows w' w.heap.size w'.heap.size u' (res x y a b c d m).1 ∧ Below w.heap.size w w' := by
  have T0 := Lib.hid (Two2.start w a b c d)
  by_cases hs : okSizes x y
  · have HS := Lib.hid hs
    by_cases hm0 : m < 0
    · rw [res_no (fun h => by have := h.2.2.2; omega)]
      clear hs
      go_enter Try.func181, Try.ntmps181
      go_wp2_with fail
      refine (val.isizes_yes _ _ _ HS.out).mono ?_
      rintro e w' ⟨rfl, rfl⟩
      go_wp2_with fail
      go_ret2
      exact ⟨_, rfl, OwnRows.nil _ _ _, T0.out.below⟩
    · by_cases hm1 : 4 ≤ m
      · rw [res_no (fun h => by have := h.2.2.2; omega)]
        clear hs
        go_enter Try.func181, Try.ntmps181
        go_wp2_with fail
        refine (val.isizes_yes _ _ _ HS.out).mono ?_
        rintro e w' ⟨rfl, rfl⟩
        go_wp2_with fail
        go_ret2
        exact ⟨_, rfl, OwnRows.nil _ _ _, T0.out.below⟩
      · obtain ⟨X, rfl⟩ : ∃ X : Nat, x = X := ⟨x.toNat, by have := hs.1; omega⟩
        obtain ⟨Y, rfl⟩ : ∃ Y : Nat, y = Y := ⟨y.toNat, by have := hs.2; omega⟩
        have hX : X ≤ 3 := by have := hs.1; omega
        have hY : Y ≤ 3 := by have := hs.2; omega
        have HQX := Lib.hid (qpr.pairs X hX)
        have HQY := Lib.hid (qpr.pairs Y hY)
        have HCX := Lib.hid (fun v W h => qix.contains v (qpr.upto X X) a b W h)
        have HCY := Lib.hid (fun v W h => qix.contains v (qpr.upto Y Y) c d W h)
        by_cases h1 : 0 ≤ a ∧ a < b ∧ b < (X : Int)
        · rw [qix.memB_yes (qpr.mem_upto.2 h1)] at HCX
          by_cases h2 : 0 ≤ c ∧ c < d ∧ d < (Y : Int)
          · rw [qix.memB_yes (qpr.mem_upto.2 h2)] at HCY
            rw [res_yes ⟨hs, h1, h2, by omega, by omega⟩]
            have HSG := Lib.hid (signs' a b c d m (by unfold three; omega) (by unfold three; omega) (by unfold three; omega) (by unfold three; omega))
            have HLK : Hid (∀ i j : Nat, i < X → j < Y → (D a b c d m 4).atKey (kl i j) (.lit (.int .i64 0)) = .lit (.int .i64 (fs a b c d m i j)) ∧ keyOf Try.prog 26 (kv i j) = some (kl i j)) := Lib.hid (fun i j hi hj =>
              ⟨sfn.look (by unfold three; omega) (by unfold three; omega) (by unfold three; omega) (by unfold three; omega) (by unfold three; omega) (by unfold three; omega), sfn.kl_eq (by unfold three; omega) (by unfold three; omega)⟩)
            have HFB := Lib.hid (fun i j => fs_bd a b c d m i j)
            have HNA := Lib.hid (N_at a b c d m Y)
            have HRS := Lib.hid (rows_succ a b c d m Y)
            have HLE := Lib.hid (fun n => make.len_rowsOf (N a b c d m Y) n)
            have HQ : Hid (∀ t, make.quad (N a b c d m Y) t = [N a b c d m Y t 0, N a b c d m Y t 1, N a b c d m Y t 2, N a b c d m Y t 3]) := Lib.hid (fun t => rfl)
            rw [show ((X : Int)).toNat * ((Y : Int)).toNat = X * Y from by simp, show ((Y : Int)).toNat = Y from by simp]
            have h9 : X * Y ≤ 9 := Nat.mul_le_mul hX hY
            have hm9 : (X : Int) * (Y : Int) = ((X * Y : Nat) : Int) := by simp
            have hmk := app.mk0s (X * Y) (by omega)
            rw [← hm9] at hmk
            have hw1 : IntKind.i64.wrap ((X : Int) * (Y : Int)) = (X : Int) * (Y : Int) := IntWalk.i64_in _ (by omega)
            have hzi : ∀ W : World, (zeroValue 3).run Try.prog W = .ok (.int .i64 0) W := fun W => by kernel_rfl
            obtain ⟨i0, hi, hz0, hz1, hz2⟩ := info_parts infoInts
            have HZI := Lib.hid hzi
            have X3 : (X : Int) ≤ 3 := by omega
            have Y3 : (Y : Int) ≤ 3 := by omega
            have H9 := Lib.hid h9
            have HX := Lib.hid hX
            have HY := Lib.hid hY
            clear hs h1 h2 hX hY h9 hzi hm9
            go_enter Try.func181, Try.ntmps181
            go_wp2_with fail
            refine (val.isizes_yes _ _ _ HS.out).mono ?_
            rintro e w0 ⟨rfl, hw0⟩
            rw [hw0] at T0
            clear hw0
            obtain ⟨c0, c1, _⟩ := two_cells T0.out.one
            obtain ⟨d0, d1, _⟩ := two_cells T0.out.two
            go_wp2_with fail
            go_region_held3 (fun w' => w'.cell? ⟨w.heap.size, 0, none⟩ = some (.int .i64 a) ∧ w'.cell? ⟨w.heap.size, 1, none⟩ = some (.int .i64 b) ∧ w'.cell? ⟨w.heap.size + 1, 0, none⟩ = some (.int .i64 c) ∧ w'.cell? ⟨w.heap.size + 1, 1, none⟩ = some (.int .i64 d) ∧ Below w0.heap.size w0 w')
              ((refine held22 c0 c1 d0 d1 ?_; repeat (first | exact Below.refl _ _ | assumption | refine below_dr ?_ | refine below_tr ?_ (by assumption))))
              (first
                | (go_at_call 136; (with_reducible refine (HQX.out _).mono ?_); rintro e w1 ⟨u1, rfl, hu1, hb1⟩; (have U1 := Lib.hid hu1.pairs); obtain ⟨ua, un, uc, rfl⟩ := hu1.pairs.shape; clear hu1)
                | (go_at_call 205; (with_reducible refine (HCX.out _ _ U1.out).mono ?_); rintro e w2 ⟨rfl, hb2⟩)
                | (go_at_call 136; (with_reducible refine (HQY.out _).mono ?_); rintro e w3 ⟨u3, rfl, hu3, hb3⟩; (have U3 := Lib.hid hu3.pairs); obtain ⟨va, vn, vc, rfl⟩ := hu3.pairs.shape; clear hu3)
                | (go_at_call 205; (with_reducible refine (HCY.out _ _ U3.out).mono ?_); rintro e w4 ⟨rfl, hb4⟩))
            have hbt := below_tr (below_tr (below_tr (below_tr (below_dr (Below.refl _ _)) hb1) hb2) hb3) hb4
            have T4 := Lib.hid (T0.out.keep hbt)
            clear c0 c1 d0 d1 hbt hb1 hb2 hb3 hb4
            obtain ⟨c0, c1, _⟩ := two_cells T4.out.one
            obtain ⟨d0, d1, _⟩ := two_cells T4.out.two
            go_wp2_with fail
            refine (HSG.out _).mono ?_
            rintro e w5 ⟨bk, rfl, hm, hb5⟩
            have HM := Lib.hid hm
            have B5 := Lib.hid (below_tr T4.out.below hb5)
            clear c0 c1 d0 d1 hm hb5 HSG HQX HQY HCX HCY
            have P0 : Hid (pile.Pile w5 (w5.alloc (.cells (madeCells #[.slice none 0 0] (X * Y)) 34)) w5.heap.size (w5.alloc (.cells (madeCells #[.slice none 0 0] (X * Y)) 34)).heap.size (.slice (some ⟨w5.heap.size, 0, none⟩) 0 (X * Y)) [] (rows a b c d m Y (0 * Y))) := Lib.hid (by
              rw [Nat.zero_mul]
              refine pile.start (below_al (Below.refl _ _) _) (Nat.le_refl _) ?_ (by simp)
              have := World.ownsRow_made (base := w5.heap.size) (e := 34) (size := 1) w5 (madeCells #[.slice none 0 0] (X * Y)) (X * Y) (Nat.le_refl _) (by have := H9.out; unfold maxLen; omega) (by simp [madeCells])
              simpa using this)
            go_wp2_with fail
            clear hmk hw1
            go_loopw [13, 14, 15, 16, 50] (fun v z14 z15 z16 i wr => ∃ r : Nat, r ≤ X ∧ i = .int .i64 r ∧ (∃ z, z14 = z) ∧ (∃ z, z15 = z) ∧ (∃ z, z16 = z) ∧ ∃ vals, Hid (pile.Pile w5 wr w5.heap.size wr.heap.size v vals (rows a b c d m Y (r * Y)))) (fun _ _ _ _ i _ => X - (intOf i).toNat)
            case atStart => exact ⟨0, Nat.zero_le _, rfl, ⟨_, rfl⟩, ⟨_, rfl⟩, ⟨_, rfl⟩, _, P0⟩
            case round =>
              obtain ⟨r, hr, rfl, ⟨z14, rfl⟩, ⟨z15, rfl⟩, ⟨z16, rfl⟩, vals, hP⟩ := hrel
              clear P0
              obtain ⟨wo, rfl⟩ : ∃ wo : World, wo = wr := ⟨_, rfl⟩
              by_cases hlt : r < X
              · have hkz : (r : Int) < (X : Int) := by omega
                go_wp2_with fail
                go_loopw [13, 15, 16, 54] (fun v z15 z16 j wi => ∃ s : Nat, s ≤ Y ∧ j = .int .i64 s ∧ (∃ z, z15 = z) ∧ (∃ z, z16 = z) ∧ ∃ vals, Hid (pile.Pile w5 wi w5.heap.size wi.heap.size v vals (rows a b c d m Y (r * Y + s)))) (fun _ _ _ j _ => Y - (intOf j).toNat)
                case atStart => exact ⟨0, Nat.zero_le _, rfl, ⟨_, rfl⟩, ⟨_, rfl⟩, _, hP⟩
                case round =>
                  clear hP
                  obtain ⟨s, hsl, rfl, ⟨z15, rfl⟩, ⟨z16, rfl⟩, vals, hP⟩ := hrel
                  obtain ⟨wi, rfl⟩ : ∃ wi : World, wi = wr := ⟨_, rfl⟩
                  by_cases hlc : s < Y
                  · have hkc : (s : Int) < (Y : Int) := by omega
                    obtain ⟨hat0, hkey0⟩ := HLK.out r s hlt hlc
                    have HAT := Lib.hid hat0
                    have HKEY := Lib.hid hkey0
                    have HMI := Lib.hid (owns_below HM.out hP.out.below)
                    have hk9 : r * Y + s < 9 := by
                      have g1 : r * Y + s < (r + 1) * Y := by rw [Nat.add_mul]; omega
                      have g2 : (r + 1) * Y ≤ X * Y := Nat.mul_le_mul_right _ (by omega)
                      have := H9.out
                      omega
                    have HK9 := Lib.hid hk9
                    have HL9 := Lib.hid (HLE.out (r * Y + s))
                    have hqt := HQ.out (r * Y + s)
                    obtain ⟨q0, q1, q2, q3⟩ := HNA.out r s hlc
                    rw [q0, q1, q2, q3] at hqt
                    have HQT := Lib.hid hqt
                    have HBD := Lib.hid (HFB.out (r : Int) (s : Int))
                    clear q0 q1 q2 q3 hqt hk9 hat0 hkey0
                    go_wp2_with (at_lookup; go_must (refine wpList_lookup_own_int _ rfl (.tmp 57) (.tmp 60) 207 rfl 26 3 .i64 keyed Try.underlying207 Try.underlying3 (HZI.out _) bk 4 (D a b c d m 4) rfl HMI.out (kv r s) (kl r s) rfl HKEY.out ?_))
                    intro n hat hwf
                    have hn : n = fs a b c d m r s := by
                      have h5 := hat.symm.trans HAT.out
                      injection h5 with h5
                      injection h5 with _ h5
                    rw [← hn] at HQT HBD
                    obtain ⟨bd1, bd2⟩ := HBD.out
                    clear hat hwf hn HAT HKEY HMI HBD
                    have kn : IntKind.i64.wrap (-n) = -n := IntWalk.i64_in _ (by omega)
                    have P2 := Lib.hid ((hP.out.keep (below_al (Below.refl _ _) (.cells #[.int .i64 n, .int .i64 (-n), .int .i64 (-n), .int .i64 n] 3))).keep (below_al (Below.refl _ _) (.cells #[.slice (some ⟨wi.heap.size, 0, none⟩) 4 4] 34)))
                    have hrowis : (wi.alloc (.cells #[.int .i64 n, .int .i64 (-n), .int .i64 (-n), .int .i64 n] 3)).rowIs wi.heap.size 3 4 (fun j => .int .i64 ((make.quad (N a b c d m Y) (r * Y + s)).getD j 0)) := by
                      refine ⟨#[.int .i64 n, .int .i64 (-n), .int .i64 (-n), .int .i64 n], heap_alloc_new wi _, rfl, fun i hi => ?_⟩
                      rw [HQT.out]
                      match i, hi with
                      | 0, _ => rfl
                      | 1, _ => rfl
                      | 2, _ => rfl
                      | 3, _ => rfl
                    have HRI := Lib.hid (hrowis.alloc (.cells #[.slice (some ⟨wi.heap.size, 0, none⟩) 4 4] 34))
                    have hsw := hP.out.below.size
                    clear hrowis bd1 bd2 HQT hP
                    go_wp2_with (at_builtin; go_must (refine wpList_append_own _ rfl (.tmp 62) (.tmp 70) 22 rfl w5.heap.size 34 i0 (.slice none 0 0) 1 24 Try.underlying22 hi hz0 hz1 hz2 rfl (by decide) _ _ _ rfl P2.out.owns ⟨wi.heap.size + 1, 0, none⟩ 1 1 [.slice (some ⟨wi.heap.size, 0, none⟩) 4 4] rfl rfl ?c1 ?c2 ?c3 ?c4 ?c5 ?_))
                    try (case c1 =>
                      have := app.one_at (wi.alloc (.cells #[.int .i64 n, .int .i64 (-n), .int .i64 (-n), .int .i64 n] 3)) (.slice (some ⟨wi.heap.size, 0, none⟩) 4 4) 34
                      simpa using this)
                    case c2 => intro u hu; simp at hu; subst hu; rfl
                    case c3 => unfold rows; rw [HL9.out]; have := HK9.out; unfold maxLen; omega
                    case c4 => unfold rows; rw [HL9.out]; have := HK9.out; omega
                    try (case c5 => simp; omega)
                    intro v' w6 hown' hgrow _
                    have P4 : Hid (pile.Pile w5 w6 w5.heap.size w6.heap.size v' (vals ++ [.slice (some ⟨wi.heap.size, 0, none⟩) 4 4]) (rows a b c d m Y (r * Y + (s + 1)))) := Lib.hid (by
                      rw [← Nat.add_assoc, HRS.out]
                      refine P2.out.grow (m' := wi.heap.size) (T := wi.heap.size + 1) (ints.own_of_row (xs := make.quad (N a b c d m Y) (r * Y + s)) HRI.out (Nat.le_refl _) (by omega) (by simp [make.quad, maxLen])) (Nat.le_refl _) (by simp) (pile.typ_row HRI.out _ _) hown' hgrow)
                    obtain ⟨xa, xl, xc, rfl⟩ := make.shape hown'
                    clear hown' hgrow P2 HRI kn
                    go_wp2_with fail
                    go_roundw
                    case rel => exact ⟨s + 1, by omega, by go_num, ⟨_, rfl⟩, ⟨_, rfl⟩, _, P4⟩
                    case measure => simp [intOf]; omega
                  · have hkc : ¬ (s : Int) < (Y : Int) := by omega
                    have hcy : r * Y + s = (r + 1) * Y := by rw [Nat.add_mul, Nat.one_mul]; omega
                    have P5 := hP.out
                    rw [hcy] at P5
                    have P6 := Lib.hid P5
                    clear P5 hP hcy
                    go_wp2_with fail
                    go_roundw
                    case rel => exact ⟨r + 1, by omega, by go_num, ⟨_, rfl⟩, ⟨_, rfl⟩, ⟨_, rfl⟩, _, P6⟩
                    case measure => simp [intOf]; omega
              · have hkz : ¬ (r : Int) < (X : Int) := by omega
                obtain rfl : r = X := by omega
                obtain ⟨xa, xl, xc, rfl⟩ := make.shape hP.out.owns
                go_wp2_with fail
                go_ret2
                exact ⟨_, rfl, hP.out.rows.mono B5.out.size (Nat.le_refl _), below_tr B5.out hP.out.below⟩
          · rw [qix.memB_no (fun h => h2 (qpr.mem_upto.1 h))] at HCY
            rw [res_no (fun h => h2 h.2.2.1)]
            clear hs h1 h2 hX hY
            go_enter Try.func181, Try.ntmps181
            go_wp2_with fail
            refine (val.isizes_yes _ _ _ HS.out).mono ?_
            rintro e w0 ⟨rfl, hw0⟩
            rw [hw0] at T0
            clear hw0
            obtain ⟨c0, c1, _⟩ := two_cells T0.out.one
            obtain ⟨d0, d1, _⟩ := two_cells T0.out.two
            go_wp2_with fail
            go_region_held3 (fun w' => w'.cell? ⟨w.heap.size, 0, none⟩ = some (.int .i64 a) ∧ w'.cell? ⟨w.heap.size, 1, none⟩ = some (.int .i64 b) ∧ w'.cell? ⟨w.heap.size + 1, 0, none⟩ = some (.int .i64 c) ∧ w'.cell? ⟨w.heap.size + 1, 1, none⟩ = some (.int .i64 d) ∧ Below w0.heap.size w0 w')
              ((refine held22 c0 c1 d0 d1 ?_; repeat (first | exact Below.refl _ _ | assumption | refine below_dr ?_ | refine below_tr ?_ (by assumption))))
              (first
                | (go_at_call 136; (with_reducible refine (HQX.out _).mono ?_); rintro e w1 ⟨u1, rfl, hu1, hb1⟩; (have U1 := Lib.hid hu1.pairs); obtain ⟨ua, un, uc, rfl⟩ := hu1.pairs.shape; clear hu1)
                | (go_at_call 205; (with_reducible refine (HCX.out _ _ U1.out).mono ?_); rintro e w2 ⟨rfl, hb2⟩)
                | (go_at_call 136; (with_reducible refine (HQY.out _).mono ?_); rintro e w3 ⟨u3, rfl, hu3, hb3⟩; (have U3 := Lib.hid hu3.pairs); obtain ⟨va, vn, vc, rfl⟩ := hu3.pairs.shape; clear hu3)
                | (go_at_call 205; (with_reducible refine (HCY.out _ _ U3.out).mono ?_); rintro e w4 ⟨rfl, hb4⟩))
            have hbt := below_tr (below_tr (below_tr (below_tr (below_dr (Below.refl _ _)) hb1) hb2) hb3) hb4
            have B4 := Lib.hid (below_tr T0.out.below hbt)
            clear c0 c1 d0 d1 hbt hb1 hb2 hb3 hb4
            go_wp2_with fail
            go_ret2
            exact ⟨_, rfl, OwnRows.nil _ _ _, B4.out⟩
        · rw [qix.memB_no (fun h => h1 (qpr.mem_upto.1 h))] at HCX
          rw [res_no (fun h => h1 h.2.1)]
          clear hs h1 hX hY
          go_enter Try.func181, Try.ntmps181
          go_wp2_with fail
          refine (val.isizes_yes _ _ _ HS.out).mono ?_
          rintro e w0 ⟨rfl, hw0⟩
          rw [hw0] at T0
          clear hw0
          obtain ⟨c0, c1, _⟩ := two_cells T0.out.one
          obtain ⟨d0, d1, _⟩ := two_cells T0.out.two
          go_wp2_with fail
          have hHeld : (fun w' : World => w'.cell? ⟨w.heap.size, 0, none⟩ = some (.int .i64 a) ∧ w'.cell? ⟨w.heap.size, 1, none⟩ = some (.int .i64 b)) w0.drew := ⟨c0, c1⟩
          refine last.start (S := (fun w' : World => w'.cell? ⟨w.heap.size, 0, none⟩ = some (.int .i64 a) ∧ w'.cell? ⟨w.heap.size, 1, none⟩ = some (.int .i64 b))) (L := 12) (by kernel_rfl) ?_
          refine last.take (i := 0) (oi := { dst := some 29, op := Op.move (Operand.tmp 0), type := 3, pos := "l3_local.go:113", after := #[], guard := none }) (v := ?v0) rfl (by kernel_rfl) (by kernel_rfl) (by kernel_rfl) (by kernel_rfl) (by decide) (fun _ _ _ h => h) (Or.inl ⟨by rfl, ?y0⟩) hHeld ?r0
          case y0 => (intro w hSw; (try dsimp only at hSw); go_simp; try with_reducible rfl)
          try simp only [Act.put, List.setIfInBounds_toArray, List.set_cons_zero, List.set_cons_succ]
          refine last.take (i := 2) (oi := { dst := some 31, op := Op.load 26 (Operand.tmp 7), type := 26, pos := "l3_local.go:113", after := #[], guard := none }) (v := ?v2) rfl (by kernel_rfl) (by kernel_rfl) (by kernel_rfl) (by kernel_rfl) (by decide) (fun _ _ _ h => h) (Or.inl ⟨by rfl, ?y2⟩) hHeld ?r2
          case y2 => (intro w hSw; (try dsimp only at hSw); go_simp; try with_reducible rfl)
          try simp only [Act.put, List.setIfInBounds_toArray, List.set_cons_zero, List.set_cons_succ]
          refine last.one (i := 1) (o := { dst := some 30, op := Op.call { callee := Callee.value (Operand.func 136), args := #[Operand.tmp 29], argTypes := #[3] }, type := 71, pos := "l3_local.go:113", after := #[{ on := 0, ground := Ground.data }], guard := none }) (by kernel_rfl) rfl (fun K hK => ?_)
          go_simp
          (go_at_call 136; (with_reducible refine (HQX.out _).mono ?_); rintro e w1 ⟨u1, rfl, hu1, hb1⟩)
          have U1 := Lib.hid hu1.pairs
          have C1 := below_cell hb1 _ _ hHeld.1
          have C2 := below_cell hb1 _ _ hHeld.2
          obtain ⟨ua, un, uc, rfl⟩ := hu1.pairs.shape
          clear hu1 hHeld
          refine hK.out _ _ ?s1 (fun hHeld => ?_)
          case s1 => (try dsimp only); exact ⟨C1, C2⟩
          clear hK K
          try simp only [Act.put, List.setIfInBounds_toArray, List.set_cons_zero, List.set_cons_succ]
          refine last.one (i := 3) (o := { dst := some 32, op := Op.call { callee := Callee.value (Operand.func 205), args := #[Operand.tmp 30, Operand.tmp 31], argTypes := #[71, 26] }, type := 4, pos := "l3_local.go:113", after := #[{ on := 1, ground := Ground.data }, { on := 2, ground := Ground.data }, { on := 1, ground := Ground.chain }], guard := none }) (by kernel_rfl) rfl (fun K hK => ?_)
          go_simp
          (go_at_call 205; (with_reducible refine (HCX.out _ _ U1.out).mono ?_); rintro e w2 ⟨rfl, hb2⟩)
          have C3 := below_cell hb2 _ _ C1
          have C4 := below_cell hb2 _ _ C2
          clear hHeld
          refine hK.out _ _ ?s3 (fun hHeld => ?_)
          case s3 => (try dsimp only); exact ⟨C3, C4⟩
          clear hK K
          try simp only [Act.put, List.setIfInBounds_toArray, List.set_cons_zero, List.set_cons_succ]
          refine last.take (i := 4) (oi := { dst := some 33, op := Op.unOp UnOp.not 4 (Operand.tmp 32), type := 4, pos := "l3_local.go:113", after := #[{ on := 3, ground := Ground.data }], guard := none }) (v := ?v4) rfl (by kernel_rfl) (by kernel_rfl) (by kernel_rfl) (by kernel_rfl) (by decide) (fun _ _ _ h => h) (Or.inl ⟨by rfl, ?y4⟩) hHeld ?r4
          case y4 => (intro w hSw; (try dsimp only at hSw); go_simp; try with_reducible rfl)
          try simp only [Act.put, List.setIfInBounds_toArray, List.set_cons_zero, List.set_cons_succ]
          refine last.take (i := 5) (oi := { dst := some 34, op := Op.move (Operand.tmp 33), type := 4, pos := "l3_local.go:113", after := #[{ on := 4, ground := Ground.data }, { on := 3, ground := Ground.chain }], guard := none }) (v := ?v5) rfl (by kernel_rfl) (by kernel_rfl) (by kernel_rfl) (by kernel_rfl) (by decide) (fun _ _ _ h => h) (Or.inl ⟨by rfl, ?y5⟩) hHeld ?r5
          case y5 => (intro w hSw; (try dsimp only at hSw); go_simp; try with_reducible rfl)
          try simp only [Act.put, List.setIfInBounds_toArray, List.set_cons_zero, List.set_cons_succ]
          refine last.take (i := 6) (oi := { dst := some 35, op := Op.move (Operand.tmp 1), type := 3, pos := "l3_local.go:113", after := #[{ on := 5, ground := Ground.guard }], guard := some (5, false) }) (v := undef) rfl (by kernel_rfl) (by kernel_rfl) (by kernel_rfl) (by kernel_rfl) (by decide) (fun _ _ _ h => h) (Or.inr ⟨by rfl, rfl⟩) hHeld ?r6
          try simp only [Act.put, List.setIfInBounds_toArray, List.set_cons_zero, List.set_cons_succ]
          refine last.take (i := 8) (oi := { dst := some 37, op := Op.load 26 (Operand.tmp 8), type := 26, pos := "l3_local.go:113", after := #[{ on := 5, ground := Ground.guard }], guard := some (5, false) }) (v := undef) rfl (by kernel_rfl) (by kernel_rfl) (by kernel_rfl) (by kernel_rfl) (by decide) (fun _ _ _ h => h) (Or.inr ⟨by rfl, rfl⟩) hHeld ?r8
          try simp only [Act.put, List.setIfInBounds_toArray, List.set_cons_zero, List.set_cons_succ]
          refine last.take (i := 7) (oi := { dst := some 36, op := Op.call { callee := Callee.value (Operand.func 136), args := #[Operand.tmp 35], argTypes := #[3] }, type := 71, pos := "l3_local.go:113", after := #[{ on := 6, ground := Ground.data }, { on := 5, ground := Ground.chain }, { on := 5, ground := Ground.guard }], guard := some (5, false) }) (v := undef) rfl (by kernel_rfl) (by kernel_rfl) (by kernel_rfl) (by kernel_rfl) (by decide) (fun _ _ _ h => h) (Or.inr ⟨by rfl, rfl⟩) hHeld ?r7
          try simp only [Act.put, List.setIfInBounds_toArray, List.set_cons_zero, List.set_cons_succ]
          refine last.take (i := 9) (oi := { dst := some 38, op := Op.call { callee := Callee.value (Operand.func 205), args := #[Operand.tmp 36, Operand.tmp 37], argTypes := #[71, 26] }, type := 4, pos := "l3_local.go:113", after := #[{ on := 7, ground := Ground.data }, { on := 8, ground := Ground.data }, { on := 7, ground := Ground.chain }, { on := 5, ground := Ground.guard }], guard := some (5, false) }) (v := undef) rfl (by kernel_rfl) (by kernel_rfl) (by kernel_rfl) (by kernel_rfl) (by decide) (fun _ _ _ h => h) (Or.inr ⟨by rfl, rfl⟩) hHeld ?r9
          try simp only [Act.put, List.setIfInBounds_toArray, List.set_cons_zero, List.set_cons_succ]
          refine last.take (i := 10) (oi := { dst := some 39, op := Op.unOp UnOp.not 4 (Operand.tmp 38), type := 4, pos := "l3_local.go:113", after := #[{ on := 9, ground := Ground.data }, { on := 5, ground := Ground.guard }], guard := some (5, false) }) (v := undef) rfl (by kernel_rfl) (by kernel_rfl) (by kernel_rfl) (by kernel_rfl) (by decide) (fun _ _ _ h => h) (Or.inr ⟨by rfl, rfl⟩) hHeld ?r10
          try simp only [Act.put, List.setIfInBounds_toArray, List.set_cons_zero, List.set_cons_succ]
          refine last.take (i := 11) (oi := { dst := some 40, op := Op.pick (Operand.tmp 34) (Operand.const (Value.bool true)) (Operand.tmp 39), type := 4, pos := "l3_local.go:113", after := #[{ on := 5, ground := Ground.data }, { on := 10, ground := Ground.data }], guard := none }) (v := ?v11) rfl (by kernel_rfl) (by kernel_rfl) (by kernel_rfl) (by kernel_rfl) (by decide) (fun _ _ _ h => h) (Or.inl ⟨by rfl, ?y11⟩) hHeld ?r11
          case y11 => (intro w hSw; (try dsimp only at hSw); go_simp; try with_reducible rfl)
          try simp only [Act.put, List.setIfInBounds_toArray, List.set_cons_zero, List.set_cons_succ]
          refine last.done (by kernel_rfl) ?_ _
          have hbt := below_tr (below_tr (below_dr (Below.refl _ _)) hb1) hb2
          have B4 := Lib.hid (below_tr T0.out.below hbt)
          clear hbt hb1 hb2 C1 C2 C3 C4 hHeld c0 c1 d0 d1
          go_wp2_with fail
          go_ret2
          exact ⟨_, rfl, OwnRows.nil _ _ _, B4.out⟩
  · have HS := Lib.hid hs
    rw [res_no (fun h => hs h.1)]
    clear hs
    go_enter Try.func181, Try.ntmps181
    go_wp2_with fail
    refine (val.isizes_no _ _ _ HS.out).mono ?_
    rintro e w' ⟨rfl, rfl⟩
    go_wp2_with fail
    go_ret2
    exact ⟨_, rfl, OwnRows.nil _ _ _, T0.out.below⟩

end Go.Proofs.Ytimfnhejiiagmaa.sfp
