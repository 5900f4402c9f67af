/- CoverNumber of the program. -/
import Derived.Test.YtimfnhejiiagmaaCvq
import Derived.Test.YtimfnhejiiagmaaIsb
namespace Go.Proofs.Ytimfnhejiiagmaa.cvr
open Go.RowKit Go.Deep Go.Proofs.Ytimfnhejiiagmaa.base
open Go.Proofs.Ytimfnhejiiagmaa.task (okTask wide taskB taskB_yes taskB_no)
open Go.Proofs.Ytimfnhejiiagmaa.grid (nn at_)
open Go.Proofs.Ytimfnhejiiagmaa.cvm Go.Proofs.Ytimfnhejiiagmaa.cvb Go.Proofs.Ytimfnhejiiagmaa.canc Go.Proofs.Ytimfnhejiiagmaa.chc Go.Proofs.Ytimfnhejiiagmaa.cvo Go.Proofs.Ytimfnhejiiagmaa.cvn Go.Proofs.Ytimfnhejiiagmaa.cvq

theorem mem_rowC {T : List (List Int)} {bt : Int} {d : Nat} {es : List Int} {f : Nat} : ∀ k, f ∈ rowC T bt d es k ↔ ∃ b, b < k ∧ okR T bt (pls d 4) (pls (at_ es b) 4) ∧ f = allM (pls d 4) (pls (at_ es b) 4) (pls d 4).length
  | 0 => ⟨fun h => by simp [rowC] at h, fun ⟨b, hb, _⟩ => absurd hb (Nat.not_lt_zero _)⟩
  | k + 1 => by
    by_cases h : okR T bt (pls d 4) (pls (at_ es k) 4)
    · rw [rowC_yes h, List.mem_append, mem_rowC k, List.mem_singleton]
      constructor
      · rintro (⟨b, hb, h1, h2⟩ | e)
        · exact ⟨b, by omega, h1, h2⟩
        · exact ⟨k, by omega, h, e⟩
      · rintro ⟨b, hb, h1, h2⟩
        by_cases hk : b = k
        · subst hk; exact .inr h2
        · exact .inl ⟨b, by omega, h1, h2⟩
    · rw [rowC_no h, mem_rowC k]
      constructor
      · rintro ⟨b, hb, h1, h2⟩
        exact ⟨b, by omega, h1, h2⟩
      · rintro ⟨b, hb, h1, h2⟩
        by_cases hk : b = k
        · subst hk; exact absurd h1 h
        · exact ⟨b, by omega, h1, h2⟩
theorem mem_allC {T : List (List Int)} {bt : Int} {ds es : List Int} {f : Nat} : ∀ k, f ∈ allC T bt ds es k ↔ ∃ a b, a < k ∧ b < es.length ∧ okR T bt (pls (at_ ds a) 4) (pls (at_ es b) 4) ∧ f = allM (pls (at_ ds a) 4) (pls (at_ es b) 4) (pls (at_ ds a) 4).length
  | 0 => ⟨fun h => by simp [allC] at h, fun ⟨a, b, ha, _⟩ => absurd ha (Nat.not_lt_zero _)⟩
  | k + 1 => by
    show f ∈ allC T bt ds es k ++ rowC T bt (at_ ds k) es es.length ↔ _
    rw [List.mem_append, mem_allC k, mem_rowC]
    constructor
    · rintro (⟨a, b, ha, hb, h1, h2⟩ | ⟨b, hb, h1, h2⟩)
      · exact ⟨a, b, by omega, hb, h1, h2⟩
      · exact ⟨k, b, by omega, hb, h1, h2⟩
    · rintro ⟨a, b, ha, hb, h1, h2⟩
      by_cases hk : a = k
      · subst hk; exact .inr ⟨b, hb, h1, h2⟩
      · exact .inl ⟨a, b, by omega, hb, h1, h2⟩
theorem allC_lt {T : List (List Int)} {bt : Int} {ds es : List Int} {k f : Nat} (h : f ∈ allC T bt ds es k) : f < 2 ^ 16 := by
  obtain ⟨a, b, _, _, _, rfl⟩ := (mem_allC k).1 h
  exact allM_lt (fun b hb => (pls_at hb).2.1) _ (fun a ha => (pls_at ha).2.1)
/-- all digits of the first k masks -/
def orC (cs : List Nat) : Nat → Nat
  | 0 => 0
  | k + 1 => orC cs k ||| cs.getD k 0
theorem orC_bit {cs : List Nat} {p : Nat} : ∀ k, k ≤ cs.length → ((orC cs k).testBit p = true ↔ ∃ c ∈ cs.take k, c.testBit p = true)
  | 0, _ => by simp [orC]
  | k + 1, h => by
    have hk : k < cs.length := by omega
    show (orC cs k ||| cs.getD k 0).testBit p = true ↔ _
    rw [Nat.testBit_or, Bool.or_eq_true, orC_bit k (by omega), List.take_succ_eq_append_getElem hk, List.getD_eq_getElem?_getD, List.getElem?_eq_getElem hk]
    constructor
    · rintro (⟨c, hc, hb⟩ | hb)
      · exact ⟨c, List.mem_append.2 (.inl hc), hb⟩
      · exact ⟨cs[k], List.mem_append.2 (.inr (List.mem_singleton.2 rfl)), hb⟩
    · rintro ⟨c, hc, hb⟩
      rw [List.mem_append, List.mem_singleton] at hc
      rcases hc with hc | rfl
      · exact .inl ⟨c, hc, hb⟩
      · exact .inr hb
theorem orC_lt {cs : List Nat} (hcs : ∀ c ∈ cs, c < 2 ^ 16) : ∀ k, k ≤ cs.length → orC cs k < 2 ^ 16
  | 0, _ => by show 0 < 2 ^ 16; decide
  | k + 1, h => Nat.or_lt_two_pow (orC_lt hcs k (by omega)) (by
    rw [List.getD_eq_getElem?_getD, List.getElem?_eq_getElem (by omega)]
    exact hcs _ (List.getElem_mem _))
/-- a member for each digit -/
theorem cov_each {cs : List Nat} {a N : Nat} (ha : a < 2 ^ N) (h : ∀ p, a.testBit p = true → ∃ c ∈ cs, c.testBit p = true) : Cov cs a N := by
  have key : ∀ n, ∃ F : List Nat, F.length ≤ n ∧ (∀ f ∈ F, f ∈ cs) ∧ ∀ p, p < n → a.testBit p = true → ∃ f ∈ F, f.testBit p = true := by
    intro n
    induction n with
    | zero => exact ⟨[], Nat.le_refl _, fun f hf => by simp at hf, fun p hp => absurd hp (Nat.not_lt_zero _)⟩
    | succ n ih =>
      obtain ⟨F, h1, h2, h3⟩ := ih
      by_cases hb : a.testBit n = true
      · obtain ⟨c, hc, hcb⟩ := h n hb
        refine ⟨c :: F, by simp; omega, fun f hf => ?_, fun p hp hpb => ?_⟩
        · rcases List.mem_cons.1 hf with e | e
          · rw [e]; exact hc
          · exact h2 f e
        · by_cases hpn : p = n
          · subst hpn; exact ⟨c, by simp, hcb⟩
          · obtain ⟨f, hf, hfb⟩ := h3 p (by omega) hpb
            exact ⟨f, List.mem_cons_of_mem _ hf, hfb⟩
      · refine ⟨F, by omega, h2, fun p hp hpb => h3 p ?_ hpb⟩
        by_cases hpn : p = n
        · subst hpn; exact absurd hpb hb
        · omega
  obtain ⟨F, h1, h2, h3⟩ := key N
  refine ⟨F, h1, h2, fun p hp => h3 p ?_ hp⟩
  apply Classical.byContradiction
  intro hn
  rw [Nat.testBit_lt_two_pow (Nat.lt_of_lt_of_le ha (Nat.pow_le_pow_right (by omega) (by omega)))] at hp
  exact absurd hp (by simp)
theorem can_16 {cs : List Nat} (hcs : ∀ c ∈ cs, c < 2 ^ 16) : can cs 16 16 (orC cs cs.length) = true :=
  (can_iff cs 16 16 _ (orC_lt hcs _ (Nat.le_refl _))).2 (cov_each (orC_lt hcs _ (Nat.le_refl _)) (fun p hp => by
    have h5 := (orC_bit _ (Nat.le_refl _)).1 hp
    rw [List.take_length] at h5
    exact h5))
/-- the program's masks of a task and a bit -/
noncomputable def fam (T : List (List Int)) (bt : Int) : List Nat := allC T bt (chs (fp T.length) (fp T.length)) (chs (fp (wide T)) (fp (wide T))) (chs (fp T.length) (fp T.length)).length
/-- the least number of masks -/
def Least (cs : List Nat) (c : Nat) : Prop := c ≤ 16 ∧ can cs 16 c (orC cs cs.length) = true ∧ ∀ j, j < c → can cs 16 j (orC cs cs.length) = false

set_option maxRecDepth 100000 in
set_option maxHeartbeats 8000000 in
theorem impl_yes (v : Value) (T : List (List Int)) (bt : Int) (w : World) (h : IRows w v T) (hok : okTask T) (hb : bt = 0 ∨ bt = 1) :
    Calls Try.prog 60 #[v, .int .i64 bt] w fun e w' => (∃ c : Nat, Least (fam T bt) c ∧ e = .returned (.tuple #[.int .i64 (c : Int), .bool true])) ∧ Below w.heap.size w w' := by
  have HT := Lib.hid (task.impl_below v T w h)
  rw [taskB_yes hok] at HT
  have HBIT := Lib.hid hb
  have HCV := Lib.hid (fun W (hW : Below w.heap.size w W) => covers v T bt W hok (h.below hW))
  have HCS : Hid (∀ c ∈ fam T bt, c < 2 ^ 16) := Lib.hid (fun c hc => allC_lt hc)
  have hl : (fam T bt).length ≤ 1000 := by
    have h1 := allC_len (T := T) (bt := bt) (ds := chs (fp T.length) (fp T.length)) (es := chs (fp (wide T)) (fp (wide T))) (by
      have h2 := chs_len (fp (wide T)) (fp (wide T))
      have h3 := fp_le _ hok.2.1.1 hok.2.1.2
      omega) (chs (fp T.length) (fp T.length)).length
    have h4 := chs_len (fp T.length) (fp T.length)
    have h5 := fp_le _ hok.1.1 hok.1.2
    show (allC _ _ _ _ _).length ≤ _
    omega
  have HL := Lib.hid hl
  have HSH := h.shape
  rw [show allC T bt (chs (fp T.length) (fp T.length)) (chs (fp (wide T)) (fp (wide T))) (chs (fp T.length) (fp T.length)).length = fam T bt from rfl] at HCV
  generalize fam T bt = cs at *
  obtain ⟨va, vn, vc, rfl⟩ := HSH
  have H16 := Lib.hid (can_16 HCS.out)
  have HOL := Lib.hid (orC_lt HCS.out cs.length (Nat.le_refl _))
  have HCAN := Lib.hid (fun k a v w => impl_can cs HCS.out hl k a v w)
  clear h hok hb
  go_enter Try.func60, Try.ntmps60
  go_wp2_with fail
  refine HT.out.mono ?_
  rintro e w1 ⟨rfl, hb1⟩
  have B1 := Lib.hid hb1
  clear hb1 HT
  go_wp2_with fail
  refine (isb.bit_yes _ _ HBIT.out).mono ?_
  rintro e w1' ⟨rfl, rfl⟩
  go_wp2_with fail
  refine (HCV.out _ ?_).mono ?_
  · exact B1.out
  rintro e w2 ⟨u, rfl, hu, hb2⟩
  obtain ⟨A, b, o, cap, rfl, hc1, hc2, hA, hcell⟩ := hu.form
  have B2 := Lib.hid (below_tr B1.out hb2)
  have HU := Lib.hid hu
  have HCE := Lib.hid hcell
  have HA := Lib.hid hA
  obtain ⟨N, hN⟩ : ∃ N, cs.length = N := ⟨_, rfl⟩
  have HN := Lib.hid hN
  rw [hN] at hl HA ⊢
  clear hu hb2 hcell hA hc1 hc2 hN HCV HBIT
  go_wp2_with fail
  go_loopw [6, 9, 24] (fun m z9 s wr => ∃ i : Nat, i ≤ N ∧ s = .int .i64 (i : Nat) ∧ (∃ z, z9 = z) ∧ (∃ M : Nat, m = .int .u64 (M : Int) ∧ Hid (orC cs i = M)) ∧ Hid (Below w2.heap.size w2 wr)) (fun _ _ s _ => N - (intOf s).toNat)
  case atStart => exact ⟨0, Nat.zero_le _, rfl, ⟨_, rfl⟩, ⟨0, rfl, Lib.hid rfl⟩, Below.refl _ _⟩
  case round =>
    obtain ⟨i, hi, rfl, ⟨z9, rfl⟩, ⟨M, rfl, hM⟩, hBW⟩ := hrel
    obtain ⟨wo, rfl⟩ : ∃ wo : World, wo = wr := ⟨_, rfl⟩
    by_cases hlt : i < N
    · have hiz : (i : Int) < (N : Int) := by omega
      obtain rfl := HA.out (by omega)
      have hil : i < cs.length := by have := HN.out; omega
      have ci := below_cell hBW.out _ _ (HCE.out i hil)
      obtain ⟨c, hc⟩ : ∃ c, cs[i] = c := ⟨_, rfl⟩
      rw [hc] at ci
      have hc16 : c < 2 ^ 16 := by rw [← hc]; exact HCS.out _ (List.getElem_mem hil)
      have hM16 : M < 2 ^ 16 := by rw [← hM.out]; exact orC_lt HCS.out _ (by omega)
      have hor := or_u hM16 hc16
      obtain ⟨Q, hQ⟩ : ∃ Q : Nat, M ||| c = Q := ⟨_, rfl⟩
      rw [hQ] at hor
      have HQ : Hid (orC cs (i + 1) = Q) := Lib.hid (by
        show orC cs i ||| cs.getD i 0 = Q
        rw [hM.out, List.getD_eq_getElem?_getD, List.getElem?_eq_getElem hil, hc]; exact hQ)
      clear hc hc16 hM16 hQ hil
      go_wp2_with fail
      go_roundw
      case rel => exact ⟨i + 1, by omega, by go_num, ⟨_, rfl⟩, ⟨Q, rfl, HQ⟩, hBW⟩
      case measure => simp [intOf]; omega
    · have hiz : ¬ (i : Int) < (N : Int) := by omega
      obtain rfl : i = N := by omega
      have HME : Hid (orC cs cs.length = M) := Lib.hid (by rw [HN.out]; exact hM.out)
      have HM16 : Hid (M < 2 ^ 16) := Lib.hid (by rw [← HME.out]; exact HOL.out)
      have HUN : Hid (Us w2 (.slice A cs.length cap) cs) := HU
      rw [HN.out] at HUN
      clear hM
      go_wp2_with fail
      go_loopw [10] (fun s wr => ∃ c : Nat, c ≤ 16 ∧ s = .int .i64 (c : Nat) ∧ Hid (∀ j, j < c → can cs 16 j M = false) ∧ Hid (Below w2.heap.size w2 wr)) (fun s _ => 17 - (intOf s).toNat)
      case atStart => exact ⟨0, Nat.zero_le _, rfl, Lib.hid (fun j hj => absurd hj (Nat.not_lt_zero _)), hBW⟩
      case round =>
        obtain ⟨c, hc, rfl, hF, hB3⟩ := hrel
        obtain ⟨wi, rfl⟩ : ∃ wi : World, wi = wr := ⟨_, rfl⟩
        have HC := Lib.hid hc
        have hcall := HCAN.out c M (.slice A i cap) wi (by omega) HM16.out (HUN.out.below hB3.out)
        have HCALL := Lib.hid hcall
        clear hcall
        go_wp2_with fail
        refine HCALL.out.mono ?_
        rintro e w4 ⟨rfl, hb4⟩
        have B4 := Lib.hid (below_tr hB3.out hb4)
        clear hb4 HCALL
        by_cases hcn : can cs 16 c M = true
        · have HCN := Lib.hid hcn
          rw [hcn]
          clear hcn
          go_wp2_with fail
          go_ret2
          exact ⟨⟨c, ⟨HC.out, by rw [HME.out]; exact HCN.out, fun j hj => by rw [HME.out]; exact hF.out j hj⟩, rfl⟩, below_tr B2.out B4.out⟩
        · have hcn : can cs 16 c M = false := by simpa using hcn
          have hc16 : c < 16 := by
            apply Classical.byContradiction
            intro hx
            obtain rfl : c = 16 := by omega
            have h5 := H16.out
            rw [HME.out, hcn] at h5
            exact absurd h5 (by simp)
          have HCN := Lib.hid hcn
          rw [hcn]
          clear hcn
          go_wp2_with fail
          go_roundw
          case rel => exact ⟨c + 1, by omega, by go_num, Lib.hid (fun j hj => by
            by_cases hjc : j = c
            · rw [hjc]; exact HCN.out
            · exact hF.out j (by omega)), B4⟩
          case measure => simp [intOf]; omega
set_option maxHeartbeats 2000000 in
theorem impl_no (v : Value) (T : List (List Int)) (bt : Int) (w : World) (h : IRows w v T) (hno : ¬ (okTask T ∧ (bt = 0 ∨ bt = 1))) :
    Calls Try.prog 60 #[v, .int .i64 bt] w fun e w' => e = .returned (.tuple #[.int .i64 0, .bool false]) ∧ Below w.heap.size w w' := by
  have HT := Lib.hid (task.impl_below v T w h)
  obtain ⟨va, vn, vc, rfl⟩ := h.shape
  by_cases hok : okTask T
  · rw [taskB_yes hok] at HT
    have HBIT := Lib.hid (fun W => isb.bit_no bt W (fun hb => hno ⟨hok, hb⟩))
    clear hok hno h
    go_enter Try.func60, Try.ntmps60
    go_wp2_with fail
    refine HT.out.mono ?_
    rintro e w1 ⟨rfl, hb1⟩
    have B1 := Lib.hid hb1
    clear hb1 HT
    go_wp2_with fail
    refine (HBIT.out _).mono ?_
    rintro e w1' ⟨rfl, rfl⟩
    go_wp2_with fail
    go_ret2
    exact ⟨rfl, B1.out⟩
  · rw [taskB_no hok] at HT
    clear hok hno h
    go_enter Try.func60, Try.ntmps60
    go_wp2_with fail
    refine HT.out.mono ?_
    rintro e w1 ⟨rfl, hb1⟩
    have B1 := Lib.hid hb1
    clear hb1 HT
    go_wp2_with fail
    go_ret2
    exact ⟨rfl, B1.out⟩

end Go.Proofs.Ytimfnhejiiagmaa.cvr
