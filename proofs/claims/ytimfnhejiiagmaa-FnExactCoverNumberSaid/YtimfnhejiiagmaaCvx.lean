/- CoverNumber of the model: the walk. -/
import Derived.Test.YtimfnhejiiagmaaCvw
namespace Go.Proofs.Ytimfnhejiiagmaa.cvx
open Go.RowKit Go.Deep Go.Proofs.Ytimfnhejiiagmaa.base
open Go.Proofs.Ytimfnhejiiagmaa.task (okTask wide taskB taskB_yes taskB_no)
open Go.Proofs.Ytimfnhejiiagmaa.grid (nn at_ inB)
open Go.Proofs.Ytimfnhejiiagmaa.cvm Go.Proofs.Ytimfnhejiiagmaa.mem Go.Proofs.Ytimfnhejiiagmaa.cvs Go.Proofs.Ytimfnhejiiagmaa.cvk Go.Proofs.Ytimfnhejiiagmaa.cvl Go.Proofs.Ytimfnhejiiagmaa.cvw

theorem mem_recC {T : List (List Int)} {bt : Int} {X Y f : Nat} : ∀ c, f ∈ recC T bt X Y c ↔ ∃ c', 1 ≤ c' ∧ c' ≤ c ∧ 0 < colM T bt c' X Y ∧ f = rowP c' (colM T bt c' X Y) Y X
  | 0 => ⟨fun h => by simp [recC] at h, fun ⟨a, h1, h2, _⟩ => by omega⟩
  | c + 1 => by
    by_cases h : 0 < colM T bt (c + 1) X Y
    · rw [recC_yes h, List.mem_append, mem_recC c, List.mem_singleton]
      constructor
      · rintro (⟨a, h1, h2, h3, h4⟩ | e)
        · exact ⟨a, h1, by omega, h3, h4⟩
        · exact ⟨c + 1, by omega, by omega, h, e⟩
      · rintro ⟨a, h1, h2, h3, h4⟩
        by_cases e : a = c + 1
        · subst e; exact .inr h4
        · exact .inl ⟨a, h1, by omega, h3, h4⟩
    · rw [recC_no h, mem_recC c]
      constructor
      · rintro ⟨a, h1, h2, h3, h4⟩
        exact ⟨a, h1, by omega, h3, h4⟩
      · rintro ⟨a, h1, h2, h3, h4⟩
        by_cases e : a = c + 1
        · subst e; exact absurd h3 h
        · exact ⟨a, h1, by omega, h3, h4⟩
theorem recC_lt {T : List (List Int)} {bt : Int} {X Y c f : Nat} (hX : X ≤ 4) (hY : Y ≤ 4) (h : f ∈ recC T bt X Y c) : f < 2 ^ 16 := by
  obtain ⟨a, _, _, _, rfl⟩ := (mem_recC c).1 h
  exact Nat.lt_of_lt_of_le (rowP_lt (colM_lt Y) X) (Nat.pow_le_pow_right (by omega) (Nat.mul_le_mul hX hY))
/-- the model's masks and the whole one -/
noncomputable def famM (T : List (List Int)) (bt : Int) : List Nat := recC T bt T.length (wide T) (2 ^ T.length - 1)
noncomputable def wholeM (T : List (List Int)) (bt : Int) : Nat := allW T bt (wide T) T.length
def LeastM (cs : List Nat) (a c : Nat) : Prop := c ≤ 16 ∧ can cs 16 c a = true ∧ ∀ j, j < c → can cs 16 j a = false
theorem wrap_s (a : Nat) (h : a ≤ 100000) : IntKind.i64.wrap (a : Int) = (a : Int) := IntWalk.i64_in _ (by omega)

set_option maxRecDepth 100000 in
set_option maxHeartbeats 8000000 in
theorem spec_yes (v : Value) (T : List (List Int)) (bt : Int) (w : World) (h : IRows w v T) (hok : okTask T) (hb : bt = 0 ∨ bt = 1) (hcan : can (famM T bt) 16 16 (wholeM T bt) = true) :
    Calls Try.prog 59 #[v, .int .i64 bt] w fun e w' => (∃ c : Nat, LeastM (famM T bt) (wholeM T bt) c ∧ e = .returned (.tuple #[.int .i64 (c : Int), .bool true])) ∧ Below w.heap.size w w' := by
  have HT := Lib.hid (task.spec_task v T w h)
  rw [taskB_yes hok] at HT
  have l1 : 0 ≤ bt := by omega
  have l2 : bt ≤ 1 := by omega
  have HR := Lib.hid (fun W (hW : Below w.heap.size w W) => rects v T bt W hok hb (h.below hW))
  have HCS : Hid (∀ c ∈ famM T bt, c < 2 ^ 16) := Lib.hid (fun c hc => recC_lt hok.1.2 hok.2.1.2 hc)
  have hl : (famM T bt).length ≤ 1000 := by
    have h1 := recC_len (T := T) (bt := bt) (X := T.length) (Y := wide T) (2 ^ T.length - 1)
    have h2 : 2 ^ T.length ≤ 16 := Nat.pow_le_pow_right (n := 2) (by omega) hok.1.2
    show (recC _ _ _ _ _).length ≤ _
    omega
  have H16 := Lib.hid hcan
  rw [show recC T bt T.length (wide T) (2 ^ T.length - 1) = famM T bt from rfl] at HR
  have HW : Hid (wholeM T bt = allW T bt (wide T) T.length) := Lib.hid rfl
  have HCAN := Lib.hid (fun k a v w => spec_can (famM T bt) HCS.out hl k a v w)
  generalize famM T bt = cs at *
  generalize wholeM T bt = wm at *
  obtain ⟨tb, td, tcap, rb, ro, rc, rfl, hcells⟩ := grid.cells h hok
  have hX1 := hok.1.1
  have hX4 := hok.1.2
  have hY1 := hok.2.1.1
  have hY4 := hok.2.1.2
  have HTC := Lib.hid hcells
  obtain ⟨X, hX⟩ : ∃ X, T.length = X := ⟨_, rfl⟩
  obtain ⟨Y, hY⟩ : ∃ Y, wide T = Y := ⟨_, rfl⟩
  rw [hX] at hX1 hX4 HTC HW HR HT ⊢
  rw [hY] at hY1 hY4 HTC HW
  have hxz : (0 : Int) < (X : Int) := by omega
  clear h hok hb hcells hcan hl hX hY
  go_enter Try.func59, Try.ntmps59
  go_wp2_with fail
  refine HT.out.mono ?_
  rintro e w1 ⟨rfl, q, rfl⟩
  go_wp2_with fail
  refine (val.in_yes _ _ _ _ l1 l2).mono ?_
  rintro e w1 ⟨rfl, rfl⟩
  go_wp2_with fail
  refine (HR.out _ (below_drewN (Below.refl _ _) _)).mono ?_
  rintro e w2 ⟨u, rfl, hu, hb2⟩
  have B2 := Lib.hid (below_tr (below_drewN (Below.refl w.heap.size w) q) hb2)
  have HU := Lib.hid hu
  obtain ⟨A, b, o, cap, rfl, -, -, -, -⟩ := form hu
  clear hu hb2 HR HT
  go_wp2_with fail
  go_loopw [6, 9] (fun m s wr => ∃ i : Nat, i ≤ X ∧ s = .int .i64 (i : Nat) ∧ (∃ M : Nat, m = .int .i64 (M : Int) ∧ Hid (allW T bt Y i = M)) ∧ Hid (Below w2.heap.size w2 wr)) (fun _ s _ => X - (intOf s).toNat)
  case atStart => exact ⟨0, Nat.zero_le _, rfl, ⟨0, rfl, Lib.hid rfl⟩, Below.refl _ _⟩
  case round =>
    obtain ⟨i, hi, rfl, ⟨M, rfl, hM⟩, hB⟩ := hrel
    obtain ⟨wo, rfl⟩ : ∃ wo : World, wo = wr := ⟨_, rfl⟩
    by_cases hlt : i < X
    · have hiz : (i : Int) < (X : Int) := by omega
      have M0 : Hid (rowW T bt Y M i 0 = M) := Lib.hid rfl
      have HLT := Lib.hid hlt
      have HML : Hid (M < 2 ^ (i * Y)) := Lib.hid (by rw [← hM.out]; exact allW_lt i)
      go_wp2_with fail
      go_loopw [6, 10] (fun m s wr => ∃ k : Nat, k ≤ Y ∧ s = .int .i64 (k : Nat) ∧ (∃ M2 : Nat, m = .int .i64 (M2 : Int) ∧ Hid (rowW T bt Y M i k = M2)) ∧ Hid (Below w2.heap.size w2 wr)) (fun _ s _ => Y - (intOf s).toNat)
      case atStart => exact ⟨0, Nat.zero_le _, rfl, ⟨M, rfl, M0⟩, hB⟩
      case round =>
        clear M0 hB
        obtain ⟨k, hk, rfl, ⟨M2, rfl, hM2⟩, hB⟩ := hrel
        obtain ⟨wi, rfl⟩ : ∃ wi : World, wi = wr := ⟨_, rfl⟩
        have BT := below_tr B2.out hB.out
        have t0 := below_cell BT _ _ (HTC.out i HLT.out).1
        have t00 := below_cell BT _ _ (HTC.out 0 (by omega)).1
        rw [Nat.add_zero] at t00
        by_cases hlk : k < Y
        · have hkz : (k : Int) < (Y : Int) := by omega
          have t1 := below_cell BT _ _ ((HTC.out i HLT.out).2 k hlk)
          obtain ⟨x, hx⟩ : ∃ x, nn T i k = x := ⟨_, rfl⟩
          rw [hx] at t1
          have HX := Lib.hid hx
          have HLK := Lib.hid hlk
          clear hx BT
          by_cases hxb : x = bt
          · have e1 : (x == bt) = true := by simp [hxb]
            have hyes := rowW_yes (m := M) (Y := Y) (HX.out.trans hxb)
            have hsl : i * Y + k ≤ 15 := by
              have : i * Y ≤ 3 * Y := Nat.mul_le_mul_right Y (by have := HLT.out; omega)
              omega
            have hRl : M2 ≤ 65536 := by
              rw [← hM2.out]
              exact Nat.le_trans (Nat.le_of_lt (rowW_lt HML.out k)) (Nat.pow_le_pow_right (n := 2) (j := 16) (by omega) (by omega))
            obtain ⟨s1, hs1⟩ : ∃ s1, i * Y = s1 := ⟨_, rfl⟩
            have hs1z : (i : Int) * (Y : Int) = (s1 : Int) := by rw [← hs1]; simp
            obtain ⟨sh, hsh⟩ : ∃ sh, s1 + k = sh := ⟨_, rfl⟩
            have hshz := sum_z hsh
            rw [hs1, hsh] at hyes hsl
            obtain ⟨P, hP⟩ : ∃ P : Nat, 2 ^ sh = P := ⟨_, rfl⟩
            have hPl : P ≤ 32768 := by rw [← hP]; exact Nat.pow_le_pow_right (n := 2) (j := 15) (by omega) hsl
            obtain ⟨Q, hQ⟩ : ∃ Q, M2 + P = Q := ⟨_, rfl⟩
            have hQz := sum_z hQ
            have hQl := le_sum hQ hRl hPl
            rw [hM2.out, hP, hQ] at hyes
            have HQ := Lib.hid hyes
            have hPz : (2 : Int) ^ sh = (P : Int) := by rw [← hP]; simp
            have w1 := wrap_s P (by omega)
            have w3 := wrap_s sh (by omega)
            have w4 := wrap_s s1 (by omega)
            clear hyes hP hQ hsh hs1
            go_wp2_with fail
            go_roundw
            case rel => exact ⟨k + 1, by have := HLK.out; omega, by go_num, ⟨Q, rfl, HQ⟩, hB⟩
            case measure => have := HLK.out; simp [intOf]; omega
          · have e1 : (x == bt) = false := by simp [hxb]
            have hno := rowW_no (m := M) (Y := Y) (k := k) (i := i) (fun e => hxb (HX.out.symm.trans e))
            rw [hM2.out] at hno
            have HQ := Lib.hid hno
            clear hno
            go_wp2_with fail
            go_roundw
            case rel => exact ⟨k + 1, by have := HLK.out; omega, by go_num, ⟨M2, rfl, HQ⟩, hB⟩
            case measure => have := HLK.out; simp [intOf]; omega
        · have hkz : ¬ (k : Int) < (Y : Int) := by omega
          obtain rfl : k = Y := by omega
          have HQ : Hid (allW T bt k (i + 1) = M2) := Lib.hid (by show rowW T bt k (allW T bt k i) i k = M2; rw [hM.out]; exact hM2.out)
          clear BT
          go_wp2_with fail
          go_roundw
          case rel => exact ⟨i + 1, by have := HLT.out; omega, by go_num, ⟨M2, rfl, HQ⟩, hB⟩
          case measure => have := HLT.out; simp [intOf]; omega
    · have hiz : ¬ (i : Int) < (X : Int) := by omega
      obtain rfl : i = X := by omega
      have HME : Hid (wm = M) := Lib.hid (HW.out.trans hM.out)
      have HM16 : Hid (M < 2 ^ 16) := Lib.hid (by rw [← hM.out]; exact Nat.lt_of_lt_of_le (allW_lt i) (Nat.pow_le_pow_right (by omega) (Nat.mul_le_mul hX4 hY4)))
      clear hM
      go_wp2_with fail
      go_loopw [8] (fun s wr => ∃ c : Nat, c ≤ 16 ∧ s = .int .i64 (c : Nat) ∧ Hid (∀ j, j < c → can cs 16 j M = false) ∧ Hid (Below w2.heap.size w2 wr)) (fun s _ => 17 - (intOf s).toNat)
      case atStart => exact ⟨0, Nat.zero_le _, rfl, Lib.hid (fun j hj => absurd hj (Nat.not_lt_zero _)), hB⟩
      case round =>
        obtain ⟨c, hc, rfl, hF, hB3⟩ := hrel
        obtain ⟨wi, rfl⟩ : ∃ wi : World, wi = wr := ⟨_, rfl⟩
        have HC := Lib.hid hc
        have hcall := HCAN.out c M _ wi (by omega) HM16.out (HU.out.below hB3.out)
        have HCALL := Lib.hid hcall
        clear hcall
        go_wp2_with fail
        refine HCALL.out.mono ?_
        rintro e w4 ⟨rfl, hb4⟩
        have B4 := Lib.hid (below_tr hB3.out hb4)
        clear hb4 HCALL
        by_cases hcn : can cs 16 c M = true
        · have HCN := Lib.hid hcn
          rw [hcn]
          clear hcn
          go_wp2_with fail
          go_ret2
          exact ⟨⟨c, ⟨HC.out, by rw [HME.out]; exact HCN.out, fun j hj => by rw [HME.out]; exact hF.out j hj⟩, rfl⟩, below_tr B2.out B4.out⟩
        · have hcn : can cs 16 c M = false := by simpa using hcn
          have hc16 : c < 16 := by
            apply Classical.byContradiction
            intro hx
            obtain rfl : c = 16 := by omega
            have h5 := H16.out
            rw [HME.out, hcn] at h5
            exact absurd h5 (by simp)
          have HCN := Lib.hid hcn
          rw [hcn]
          clear hcn
          go_wp2_with fail
          go_roundw
          case rel => exact ⟨c + 1, by omega, by go_num, Lib.hid (fun j hj => by
            by_cases hjc : j = c
            · rw [hjc]; exact HCN.out
            · exact hF.out j (by omega)), B4⟩
          case measure => simp [intOf]; omega

end Go.Proofs.Ytimfnhejiiagmaa.cvx
