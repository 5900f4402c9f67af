/- coversOf of the program. -/
import Derived.Test.YtimfnhejiiagmaaCvn
import Derived.Test.YtimfnhejiiagmaaApl
import Derived.WalkMore
import Derived.Deep.LoopGhost
namespace Go.Proofs.Ytimfnhejiiagmaa.cvq
open Go.RowKit Go.Deep Go.Proofs.Ytimfnhejiiagmaa.base
open Go.Proofs.Ytimfnhejiiagmaa.task (okTask wide)
open Go.Proofs.Ytimfnhejiiagmaa.grid (nn at_)
open Go.Proofs.Ytimfnhejiiagmaa.cvm Go.Proofs.Ytimfnhejiiagmaa.cvb Go.Proofs.Ytimfnhejiiagmaa.canc Go.Proofs.Ytimfnhejiiagmaa.chc Go.Proofs.Ytimfnhejiiagmaa.cvo Go.Proofs.Ytimfnhejiiagmaa.cvn
open Go.Proofs.Ytimfnhejiiagmaa.prt (two_cells)

theorem infoU : (Try.prog.info? 142).map (fun i => (i.zero, i.size, i.bytes)) = some (some (.int .u64 0), 1, 8) := by kernel_rfl
def us (cs : List Nat) : List Value := cs.map fun (c : Nat) => Value.int .u64 (c : Int)
theorem us_snoc (cs : List Nat) (c : Nat) : us cs ++ [.int .u64 (c : Int)] = us (cs ++ [c]) := by simp [us]
theorem us_of_owns {w : World} {B n : Nat} {v : Value} {cs : List Nat} (h : w.ownsRow B 142 1 v n (us cs)) : Us w v cs := app.sl_of_owns h
/-- a list in memory of the call's own, read by place -/
theorem look {w : World} {B S : Nat} {v : Value} {xs : List Int} (h : OwnInts w B S v xs) (he : ∀ a (ha : a < xs.length), xs[a] = ((at_ xs a : Nat) : Int)) :
    ∃ (A : Option Addr) (b o cap : Nat), v = .slice A xs.length cap ∧ (0 < xs.length → A = some ⟨b, o, none⟩ ∧ B ≤ b ∧ b < S) ∧ ∀ a, a < xs.length → w.cell? ⟨b, o + a, none⟩ = some (.int .i64 ((at_ xs a : Nat) : Int)) := by
  obtain ⟨A, b, o, cap, hv, h1, h2, h3, hc⟩ := h.ints.form
  refine ⟨A, b, o, cap, hv, fun hp => ?_, fun a ha => by rw [hc a ha, he a ha]⟩
  have hA := h3 hp
  have hi : In v ⟨b, o, none⟩ := ⟨b, o, xs.length, cap, by rw [hv, hA], rfl, rfl, Nat.le_refl _, by show o < o + xs.length; omega⟩
  exact ⟨hA, h.ge _ hi, h.lt _ hi⟩


set_option maxRecDepth 100000 in
set_option maxHeartbeats 16000000 in
theorem covers (tv : Value) (T : List (List Int)) (bt : Int) (w : World) (hok : okTask T) (ht : IRows w tv T) :
    Calls Try.prog 127 #[tv, .int .i64 bt] w fun e w' => ∃ u, e = .returned u ∧ Us w' u (allC T bt (chs (fp T.length) (fp T.length)) (chs (fp (wide T)) (fp (wide T))) (chs (fp T.length) (fp T.length)).length) ∧ Below w.heap.size w w' := by
  obtain ⟨i0, hi0, hz0, hz1, hz2⟩ := info_parts infoU
  have HW := Lib.hid (whole tv T w hok ht)
  obtain ⟨tb, td, tcap, rb, ro, rc, rfl, hcells⟩ := grid.cells ht hok
  obtain ⟨⟨hX1, hX4⟩, ⟨hY1, hY4⟩, _⟩ := hok
  have HPX := Lib.hid (fun a b => place_lt (a := a) (b := b) hX1 hX4)
  have HPY := Lib.hid (fun a b => place_lt (a := a) (b := b) hY1 hY4)
  have hx15 := fp_le _ hX1 hX4
  have hy15 := fp_le _ hY1 hY4
  have HTC := Lib.hid hcells
  obtain ⟨X, hX⟩ : ∃ X, T.length = X := ⟨_, rfl⟩
  obtain ⟨Y, hY⟩ : ∃ Y, wide T = Y := ⟨_, rfl⟩
  rw [hX] at HW HPX HTC hx15 hX1 hX4 ⊢
  rw [hY] at HW HPY HTC hy15 hY1 hY4 ⊢
  have HCX := Lib.hid (fun W => choices (fp X) hx15 W)
  have HCY := Lib.hid (fun W => choices (fp Y) hy15 W)
  have lx := chs_len (fp X) (fp X)
  have ly := chs_len (fp Y) (fp Y)
  have HEX := Lib.hid (fun a (ha : a < (chs (fp X) (fp X)).length) => chs_at ha)
  have HEY := Lib.hid (fun a (ha : a < (chs (fp Y) (fp Y)).length) => chs_at ha)
  generalize fp X = dX at *
  generalize fp Y = dY at *
  obtain ⟨ds, hds⟩ : ∃ ds, chs dX dX = ds := ⟨_, rfl⟩
  obtain ⟨es, hes⟩ : ∃ es, chs dY dY = es := ⟨_, rfl⟩
  rw [hds] at HPX HCX HEX lx ⊢
  rw [hes] at HPY HCY HEY ly ⊢
  clear hds hes hcells ht hX hY
  go_enter Try.func127, Try.ntmps127
  go_wp2_with fail
  refine HW.out.mono ?_
  rintro e w1 ⟨rfl, hb1⟩
  have B1 := Lib.hid (below_al hb1 (.cells #[.int .i64 (dX : Int), .int .i64 (dY : Int)] 122))
  have K1 := Lib.hid (Blk.new w1 122 #[.int .i64 (dX : Int), .int .i64 (dY : Int)])
  obtain ⟨g0, g1, gl⟩ := two_cells K1.out
  clear hb1 HW
  go_wp2_with fail
  refine (HCX.out _).mono ?_
  rintro e w3 ⟨u, rfl, hu, hb3⟩
  obtain ⟨RA, rbk, rof, rcap, rfl, hRA, hRC⟩ := look hu (fun a ha => (HEX.out a ha).1)
  have HRC := Lib.hid hRC
  have HRA := Lib.hid (fun h => (hRA h).1)
  have B3 := Lib.hid (below_tr B1.out hb3)
  have G3 := Lib.hid (And.intro (below_cell hb3 _ _ g0) (below_cell hb3 _ _ g1))
  obtain ⟨n1, hn1⟩ : ∃ n1, ds.length = n1 := ⟨_, rfl⟩
  clear HEX
  rw [hn1] at HRA HRC HPX lx ⊢
  have l1 : n1 ≤ 15 := by omega
  have l1z : (n1 : Int) ≤ 15 := by omega
  have O0 : Hid (w3.ownsRow w3.heap.size 142 1 (.slice none 0 0) (allC T bt ds es 0).length (us (allC T bt ds es 0))) := Lib.hid (World.ownsRow_nil _ _ _ _)
  have HN1 := Lib.hid hn1
  clear hu hb3 hRA hRC HCX K1 B1 g0 g1 gl hn1
  go_wp2_with fail
  go_loopg [5, 23] n1 (fun g vb s wr => ∃ a : Nat, a + g = n1 ∧ s = .int .i64 (a : Nat) ∧ (∃ vv, vb = vv ∧ Hid (wr.ownsRow w3.heap.size 142 1 vv (allC T bt ds es a).length (us (allC T bt ds es a)))) ∧ Hid (Below w3.heap.size w3 wr))
  case atStart => exact ⟨0, by omega, rfl, ⟨_, rfl, O0⟩, Below.refl _ _⟩
  case round =>
    clear O0
    obtain ⟨a, hag, rfl, ⟨vv, hvv, hO⟩, hBW⟩ := hrel
    obtain ⟨wo, rfl⟩ : ∃ wo : World, wo = wr := ⟨_, rfl⟩
    obtain ⟨A5, l5, c5, hv5⟩ := boxl.shapez hO.out
    subst hv5
    subst hvv
    cases gk with
    | succ g =>
      have hlt : a < n1 := by omega
      have hkz : (a : Int) < (n1 : Int) := by omega
      obtain rfl := HRA.out (by omega)
      have cr := below_cell hBW.out _ _ (HRC.out a hlt)
      have g1 := below_cell hBW.out _ _ G3.out.2
      have HAL := Lib.hid (allC_len (T := T) (bt := bt) (ds := ds) (es := es) (show es.length ≤ 15 by omega) a)
      have HPA := Lib.hid (fun b => HPX.out a b hlt)
      obtain ⟨d, hd⟩ : ∃ d, at_ ds a = d := ⟨_, rfl⟩
      rw [hd] at cr HPA
      have HD := Lib.hid hd
      clear hd
      go_wp2_with fail
      go_step3
      go_wp2_with fail
      go_step3
      go_wp2_with fail
      refine (HCY.out _).mono ?_
      rintro e w4 ⟨u4, rfl, hu, hb4⟩
      obtain ⟨CA, cbk, cof, ccap, rfl, hCA, hCC⟩ := look hu (fun b hb => (HEY.out b hb).1)
      have HCA := Lib.hid (fun h => (hCA h).1)
      obtain ⟨C0, hC0⟩ : ∃ C0, allC T bt ds es a = C0 := ⟨_, rfl⟩
      rw [hC0] at hO HAL
      have HC0 := Lib.hid hC0
      have B4 := Lib.hid (below_tr hBW.out hb4)
      have O4 : Hid (w4.ownsRow w3.heap.size 142 1 (.slice A5 l5 c5) (C0 ++ rowC T bt d es 0).length (us (C0 ++ rowC T bt d es 0))) := Lib.hid (by rw [show C0 ++ rowC T bt d es 0 = C0 from List.append_nil _]; exact app.owns_below hO.out hb4)
      obtain ⟨n2, hn2⟩ : ∃ n2, es.length = n2 := ⟨_, rfl⟩
      have D4 : Hid ((∀ b, b < n2 → w4.cell? ⟨cbk, cof + b, none⟩ = some (.int .i64 ((at_ es b : Nat) : Int))) ∧ (0 < n2 → (Value.slice A5 l5 c5).ownBlock ≠ some cbk ∧ cbk < w4.heap.size)) := Lib.hid ⟨fun b hb => hCC b (by omega), fun h => by
        obtain ⟨_, h2, h3⟩ := hCA (by omega)
        refine ⟨fun e => ?_, h3⟩
        have := (hO.out.lt _ e).2
        omega⟩
      rw [hn2] at HCA ly ⊢
      have HN2 := Lib.hid hn2
      have l2z : (n2 : Int) ≤ 15 := by omega
      clear hu hb4 hCA hCC hC0 hn2 cr g1
      go_wp2_with fail
      go_loopg [5, 31] n2 (fun g2 vb s wr => ∃ k : Nat, k + g2 = n2 ∧ s = .int .i64 (k : Nat) ∧ (∃ vv, vb = vv ∧ Hid (wr.ownsRow w3.heap.size 142 1 vv (C0 ++ rowC T bt d es k).length (us (C0 ++ rowC T bt d es k))) ∧ Hid ((∀ b, b < n2 → wr.cell? ⟨cbk, cof + b, none⟩ = some (.int .i64 ((at_ es b : Nat) : Int))) ∧ (0 < n2 → vv.ownBlock ≠ some cbk ∧ cbk < wr.heap.size))) ∧ Hid (Below w3.heap.size w3 wr))
      case atStart => exact ⟨0, by omega, rfl, ⟨_, rfl, O4, D4⟩, B4⟩
      case round =>
        clear O4 B4 D4 hO hBW
        obtain ⟨k, hkg, rfl, ⟨vv, hvv, hO, hD⟩, hBW⟩ := hrel
        obtain ⟨wi, rfl⟩ : ∃ wi : World, wi = wr := ⟨_, rfl⟩
        obtain ⟨A6, l6, c6, hv6⟩ := boxl.shapez hO.out
        subst hv6
        subst hvv
        cases gk with
        | succ g2 =>
          have hlk : k < n2 := by omega
          have hkb : (k : Int) < (n2 : Int) := by omega
          obtain rfl := HCA.out (by have := HN2.out; omega)
          have cc := hD.out.1 k hlk
          have HPB := Lib.hid (fun b => HPY.out k b (by have := HN2.out; omega))
          have HRL := Lib.hid (rowC_len (T := T) (bt := bt) (d := d) (es := es) k)
          obtain ⟨e, he⟩ : ∃ e, at_ es k = e := ⟨_, rfl⟩
          rw [he] at cc HPB
          have HE := Lib.hid he
          have HP0 : Hid (∀ W : World, Calls Try.prog 176 #[.agg #[.int .i64 (d : Int), .int .i64 (e : Int)], .int .i64 0] W fun e w' => ∃ u, e = .returned u ∧ OwnInts w' W.heap.size w'.heap.size u (pls d 4) ∧ Below W.heap.size W w') := Lib.hid (fun W => places d e 0 (by omega) W)
          have HP1 : Hid (∀ W : World, Calls Try.prog 176 #[.agg #[.int .i64 (d : Int), .int .i64 (e : Int)], .int .i64 1] W fun e' w' => ∃ u, e' = .returned u ∧ OwnInts w' W.heap.size w'.heap.size u (pls e 4) ∧ Below W.heap.size W w') := Lib.hid (fun W => places d e 1 (by omega) W)
          have HYES : Hid (okR T bt (pls d 4) (pls e 4) → rowC T bt d es (k + 1) = rowC T bt d es k ++ [allM (pls d 4) (pls e 4) (pls d 4).length]) := Lib.hid (fun h => by
            have h5 := rowC_yes (T := T) (bt := bt) (d := d) (es := es) (k := k) (by rw [HE.out]; exact h)
            rw [HE.out] at h5; exact h5)
          have HNO : Hid (¬ okR T bt (pls d 4) (pls e 4) → rowC T bt d es (k + 1) = rowC T bt d es k) := Lib.hid (fun h => rowC_no (by rw [HE.out]; exact h))
          have HI4 := Lib.hid (fun b (hb : b < (pls d 4).length) => And.intro (pls_at hb).1 (pls_at hb).2.1)
          have HJ4 := Lib.hid (fun b (hb : b < (pls e 4).length) => And.intro (pls_at hb).1 (pls_at hb).2.1)
          have li := pls_len d 4
          have lj := pls_len e 4
          obtain ⟨is, his⟩ : ∃ is, pls d 4 = is := ⟨_, rfl⟩
          obtain ⟨js, hjs⟩ : ∃ js, pls e 4 = js := ⟨_, rfl⟩
          rw [his] at HP0 HYES HNO HI4 li HPA
          rw [hjs] at HP1 HYES HNO HJ4 lj HPB
          have I1 := Lib.hid (below_al (Below.refl wi.heap.size wi) (.cells #[.int .i64 (d : Int), .int .i64 (e : Int)] 122))
          have R1 := Lib.hid (two_cells (Blk.new wi 122 #[.int .i64 (d : Int), .int .i64 (e : Int)]))
          clear he his hjs
          go_wp2_with fail
          refine (HP0.out _).mono ?_
          rintro e' w5 ⟨u5, rfl, hu, hb5⟩
          obtain ⟨IA, ib, io, icap, rfl, hIA, hIC⟩ := look hu (fun b hb => (HI4.out b hb).1)
          have HIA := Lib.hid (fun h => (hIA h).1)
          have HIC := Lib.hid hIC
          have I5 := Lib.hid (below_tr I1.out hb5)
          have R5 := Lib.hid (And.intro (below_cell hb5 _ _ R1.out.1) (below_cell hb5 _ _ R1.out.2.1))
          have HIL := Lib.hid (fun b (hb : b < is.length) => (HI4.out b hb).2)
          have HJL := Lib.hid (fun b (hb : b < js.length) => (HJ4.out b hb).2)
          obtain ⟨n3, hn3⟩ : ∃ n3, is.length = n3 := ⟨_, rfl⟩
          rw [hn3] at HIA HIC HPA HIL li ⊢
          have HN3 := Lib.hid hn3
          have l3z : (n3 : Int) ≤ 4 := by omega
          have M0 : Hid (allM is js 0 = 0 ∧ ∀ a b, a < 0 → b < js.length → nn T (at_ is a) (at_ js b) = bt) := Lib.hid ⟨rfl, fun a b h => absurd h (Nat.not_lt_zero _)⟩
          clear hu hb5 hIA hIC R1 I1 HI4 hn3 HP0 cc
          go_wp2_with fail
          go_loopg [12, 41] n3 (fun g3 m s wr => ∃ q : Nat, q + g3 = n3 ∧ s = .int .i64 (q : Nat) ∧ (∃ M : Nat, m = .int .u64 (M : Int) ∧ Hid (allM is js q = M ∧ ∀ a b, a < q → b < js.length → nn T (at_ is a) (at_ js b) = bt)) ∧ Hid (Below wi.heap.size wi wr ∧ Below w5.heap.size w5 wr))
          case atStart => exact ⟨0, by omega, rfl, ⟨0, rfl, M0⟩, Lib.hid ⟨I5.out, Below.refl _ _⟩⟩
          case round =>
            clear M0 I5
            obtain ⟨q, hqg, rfl, ⟨M, rfl, hM⟩, hB3⟩ := hrel
            obtain ⟨wx, rfl⟩ : ∃ wx : World, wx = wr := ⟨_, rfl⟩
            cases gk with
            | succ g3 =>
              have hlq : q < n3 := by omega
              have hqz : (q : Int) < (n3 : Int) := by omega
              obtain rfl := HIA.out (by have := HN3.out; omega)
              have ci := below_cell hB3.out.2 _ _ (HIC.out q hlq)
              have r0 := below_cell hB3.out.2 _ _ R5.out.1
              have r1 := below_cell hB3.out.2 _ _ R5.out.2
              have hi4 := HIL.out q hlq
              have hiX := HPA.out q hlq
              obtain ⟨i, hii⟩ : ∃ i, at_ is q = i := ⟨_, rfl⟩
              rw [hii] at ci hi4 hiX
              have HII := Lib.hid hii
              clear hii
              go_wp2_with fail
              refine (HP1.out _).mono ?_
              rintro e' w6 ⟨u6, rfl, hu, hb6⟩
              obtain ⟨JA, jb, jo, jcap, rfl, hJA, hJC⟩ := look hu (fun b hb => (HJ4.out b hb).1)
              have HJA := Lib.hid (fun h => (hJA h).1)
              have HJC := Lib.hid hJC
              have I6 := Lib.hid (And.intro (below_tr hB3.out.1 hb6) (below_tr hB3.out.2 hb6))
              obtain ⟨n4, hn4⟩ : ∃ n4, js.length = n4 := ⟨_, rfl⟩
              have M6 : Hid (rowM M i js 0 = M ∧ ∀ b, b < 0 → nn T i (at_ js b) = bt) := Lib.hid ⟨rfl, fun b h => absurd h (Nat.not_lt_zero _)⟩
              have HM16 : Hid (M < 2 ^ 16) := Lib.hid (by rw [← hM.out.1]; exact allM_lt (fun b hb => HJL.out b hb) q (fun a' ha' => HIL.out a' (by omega)))
              have HN4 := Lib.hid hn4
              rw [hn4] at HJA HJC lj ⊢
              clear hu hb6 hJA hJC hn4 ci r0 r1
              go_wp2_with fail
              go_loopg [12, 48] n4 (fun g4 m s wr => ∃ r : Nat, r + g4 = n4 ∧ s = .int .i64 (r : Nat) ∧ (∃ M2 : Nat, m = .int .u64 (M2 : Int) ∧ Hid (rowM M i js r = M2 ∧ ∀ b, b < r → nn T i (at_ js b) = bt)) ∧ Hid ((Below wi.heap.size wi wr ∧ Below w5.heap.size w5 wr) ∧ Below w6.heap.size w6 wr))
              case atStart => exact ⟨0, by omega, rfl, ⟨M, rfl, M6⟩, Lib.hid ⟨I6.out, Below.refl _ _⟩⟩
              case round =>
                clear M6 I6
                obtain ⟨r, hrg, rfl, ⟨M2, rfl, hM2⟩, hB4⟩ := hrel
                obtain ⟨wy, rfl⟩ : ∃ wy : World, wy = wr := ⟨_, rfl⟩
                cases gk with
                | succ g4 =>
                  have hlr : r < n4 := by omega
                  have hrz : (r : Int) < (n4 : Int) := by omega
                  obtain rfl := HJA.out (by have := HN4.out; omega)
                  have cj := below_cell hB4.out.2 _ _ (HJC.out r (by have := HN4.out; omega))
                  have hj4 := HJL.out r (by have := HN4.out; omega)
                  have hjY := HPB.out r (by have := HN4.out; omega)
                  obtain ⟨j, hjj⟩ : ∃ j, at_ js r = j := ⟨_, rfl⟩
                  rw [hjj] at cj hj4 hjY
                  have HJJ := Lib.hid hjj
                  have BT := below_tr (below_tr B3.out hBW.out) hB4.out.1.1
                  have t0 := below_cell BT _ _ (HTC.out i hiX).1
                  have t1 := below_cell BT _ _ ((HTC.out i hiX).2 j hjY)
                  have hiXz : (i : Int) < (X : Int) := by omega
                  have hjYz : (j : Int) < (Y : Int) := by omega
                  obtain ⟨v, hv⟩ : ∃ v, nn T i j = v := ⟨_, rfl⟩
                  rw [hv] at t1
                  have HV := Lib.hid hv
                  clear hv hjj BT
                  by_cases hvb : v = bt
                  · have e1 : (v != bt) = false := by simp [hvb]
                    obtain ⟨sh, hsh⟩ : ∃ sh : Nat, i * 4 + j = sh := ⟨_, rfl⟩
                    have hshz : (i : Int) * 4 + (j : Int) = (sh : Int) := by omega
                    have hs16 : sh < 16 := by omega
                    obtain ⟨P, hP⟩ : ∃ P : Nat, 2 ^ sh = P := ⟨_, rfl⟩
                    have hP16 : P < 2 ^ 16 := by rw [← hP]; exact Nat.pow_lt_pow_right (by omega) hs16
                    have hPz : (2 : Int) ^ sh = (P : Int) := by rw [← hP]; simp
                    have hu : IntKind.u64.wrap (P : Int) = (P : Int) := IntWalk.u64_in _ (by omega)
                    have hM16 : M2 < 2 ^ 16 := by rw [← hM2.out.1]; exact rowM_lt HM16.out hi4 r (fun b hb => HJL.out b (by have := HN4.out; omega))
                    obtain ⟨Q, hQ⟩ : ∃ Q : Nat, M2 ||| P = Q := ⟨_, rfl⟩
                    have hor := or_u hM16 hP16
                    rw [hQ] at hor
                    have MR : Hid (rowM M i js (r + 1) = Q ∧ ∀ b, b < r + 1 → nn T i (at_ js b) = bt) := Lib.hid ⟨by
                      show rowM M i js r ||| 2 ^ (i * 4 + at_ js r) = Q
                      rw [hM2.out.1, HJJ.out, hsh, hP, hQ], fun b hb => by
                      by_cases hbr : b = r
                      · rw [hbr, HJJ.out, HV.out]; exact hvb
                      · exact hM2.out.2 b (by omega)⟩
                    clear hsh hP hQ hP16 hM16
                    go_wp2_with fail
                    go_roundg g4
                    case measure => omega
                    case rel => exact ⟨r + 1, by omega, by go_num, ⟨Q, rfl, MR⟩, hB4⟩
                  · have e1 : (v != bt) = true := by simp [hvb]
                    go_wp2_with fail
                    go_roundg g2
                    case measure => omega
                    case rel =>
                      have hno := HNO.out (fun h => hvb (by
                        have h5 := h q r (by have := HN3.out; omega) (by have := HN4.out; omega)
                        rw [HII.out, HJJ.out, HV.out] at h5; exact h5))
                      exact ⟨k + 1, by omega, by go_num, ⟨_, rfl, Lib.hid (by rw [hno]; exact app.owns_below hO.out hB4.out.1.1), Lib.hid ⟨fun b hb => below_cell hB4.out.1.1 _ _ (hD.out.1 b hb), fun h => ⟨(hD.out.2 h).1, by have h5 := (hD.out.2 h).2; have h6 := hB4.out.1.1.size; omega⟩⟩⟩, Lib.hid (below_tr hBW.out hB4.out.1.1)⟩
                | zero =>
                  go_wp2_with fail
                  go_roundg g3
                  case measure => omega
                  case rel =>
                    obtain rfl : r = n4 := by omega
                    refine ⟨q + 1, by omega, by go_num, ⟨M2, rfl, Lib.hid ⟨?_, fun a' b ha' hb => ?_⟩⟩, Lib.hid hB4.out.1⟩
                    · show rowM (allM is js q) (at_ is q) js js.length = M2
                      rw [hM.out.1, HII.out, HN4.out]; exact hM2.out.1
                    · by_cases haq : a' = q
                      · rw [haq, HII.out]; exact hM2.out.2 b (by have := HN4.out; omega)
                      · exact hM.out.2 a' b (by omega) hb
            | zero =>
              obtain rfl : q = n3 := by omega
              have hyes := HYES.out (fun a' b ha' hb => hM.out.2 a' b (by have := HN3.out; omega) hb)
              rw [HN3.out, hM.out.1] at hyes
              have HY := Lib.hid hyes
              obtain ⟨n, hn⟩ : ∃ n, (C0 ++ rowC T bt d es k).length = n := ⟨_, rfl⟩
              have hnl : n ≤ 240 := by rw [← hn, List.length_append]; have h5 := HAL.out; have h6 := HRL.out; omega
              have hO1 := app.owns_below hO.out hB3.out.1
              rw [hn] at hO1
              have A1 := Lib.hid (app.owns_below hO1 (below_al (Below.refl _ _) (.cells #[.int .u64 (M : Int)] 142)))
              have BX := Lib.hid (below_tr hBW.out hB3.out.1)
              have hsz : w3.heap.size ≤ wx.heap.size := BX.out.size
              have HN := Lib.hid hn
              clear hn hyes hO1
              go_wp2_with (at_builtin; go_must (refine boxl.app_lies rfl (.tmp 70) (.tmp 72) 143 rfl (w3.heap.size) 142 i0 (.int .u64 0) 1 8 Try.underlying143 hi0 hz0 hz1 hz2 rfl (by decide) _ _ _ rfl A1.out ⟨wx.heap.size, 0, none⟩ 1 1 [.int .u64 (M : Int)] rfl rfl ?c1 ?c2 ?c3 ?c4 ?c5 ?c6 ?_))
              try (case c1 => first | exact app.one_at _ _ _ | (intro q u hq; have h5 := app.one_at wx (.int .u64 (M : Int)) 142 q u hq; simpa using h5))
              try (case c2 => first | rfl | (intro u hu; simp at hu; subst hu; rfl))
              try (case c3 => unfold maxLen; omega)
              try (case c4 => omega)
              try (case c5 => first | omega | (simp; omega))
              try (case c6 => omega)
              intro v9 w9 hown hgrow hlies
              have B9 := Lib.hid ((below_al BX.out (.cells #[.int .u64 (M : Int)] 142)).grown hgrow (by simp; omega) (fun j hj => by have := (hO.out.lt j hj).1; omega))
              have D9 : Hid ((∀ b, b < n2 → w9.cell? ⟨cbk, cof + b, none⟩ = some (.int .i64 ((at_ es b : Nat) : Int))) ∧ (0 < n2 → v9.ownBlock ≠ some cbk ∧ cbk < w9.heap.size)) := Lib.hid (by
                obtain ⟨d1, d2⟩ := hD.out
                have hk2 : 0 < n2 := by omega
                obtain ⟨d3, d4⟩ := d2 hk2
                have h6 := hB3.out.1.size
                have h7 := hgrow.size
                refine ⟨fun b hb => hgrow.cell (below_cell (below_al (Below.refl wx.heap.size wx) (.cells #[.int .u64 (M : Int)] 142)) _ _ (below_cell hB3.out.1 _ _ (d1 b hb))) (fun e => d3 e.symm), fun _ => ⟨fun e => ?_, by simp at h7; omega⟩⟩
                rcases hlies with l | l
                · exact d3 (l.symm.trans e)
                · rw [l] at e; injection e with e; first | omega | (simp at e; omega))
              have O9 : Hid (w9.ownsRow w3.heap.size 142 1 v9 (C0 ++ rowC T bt d es (k + 1)).length (us (C0 ++ rowC T bt d es (k + 1)))) := Lib.hid (by
                have h5 := hown
                rw [us_snoc] at h5
                rw [HY.out, ← List.append_assoc, List.length_append, HN.out]
                exact h5)
              clear hown hgrow hlies A1
              go_wp2_with fail
              go_roundg g2
              case measure => omega
              case rel => exact ⟨k + 1, by omega, by go_num, ⟨_, rfl, O9, D9⟩, B9⟩
        | zero =>
          obtain rfl : k = n2 := by omega
          have OE : Hid (wi.ownsRow w3.heap.size 142 1 (.slice A6 l6 c6) (allC T bt ds es (a + 1)).length (us (allC T bt ds es (a + 1)))) := Lib.hid (by
            show wi.ownsRow _ _ _ _ (allC T bt ds es a ++ rowC T bt (at_ ds a) es es.length).length (us (allC T bt ds es a ++ rowC T bt (at_ ds a) es es.length))
            rw [HC0.out, HD.out, HN2.out]; exact hO.out)
          go_wp2_with fail
          rw [Exit.noGoto_normal]
          go_wp2_with fail
          go_roundg g
          case measure => omega
          case rel => exact ⟨a + 1, by omega, by go_num, ⟨_, rfl, OE⟩, hBW⟩
    | zero =>
      obtain rfl : a = n1 := by omega
      have OE : Hid (Us wo (.slice A5 l5 c5) (allC T bt ds es ds.length)) := Lib.hid (by rw [HN1.out]; exact us_of_owns hO.out)
      go_wp2_with fail
      go_ret
      exact ⟨_, rfl, OE.out, below_tr B3.out hBW.out⟩

end Go.Proofs.Ytimfnhejiiagmaa.cvq
