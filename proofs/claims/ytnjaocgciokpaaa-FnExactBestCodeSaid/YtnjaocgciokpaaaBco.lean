/- BestCode and FairCode of both sides. -/
import Derived.Test.YtnjaocgciokpaaaPlg
import Derived.Test.YtnjaocgciokpaaaCdu
import Derived.Laws.EntriesVeiled
namespace Go.Proofs.Ytnjaocgciokpaaa.bco
open Go.RowKit Go.Deep Go.Proofs.Ytnjaocgciokpaaa.base
open Go.Proofs.Ytnjaocgciokpaaa.ints (ret_int infoInt)
open Go.Proofs.Ytnjaocgciokpaaa.play (within)
open Go.Proofs.Ytnjaocgciokpaaa.plays (bit at_ len_at get_at)
open Go.Proofs.Ytnjaocgciokpaaa.cdm
open Go.Proofs.Ytnjaocgciokpaaa.maxi (lst bst bst_new bst_old lst_new lst_old)

theorem ok_at {n p : Nat} (h : 1 ≤ (n : Int) ∧ (n : Int) ≤ 3) : okCode (n : Int) (at_ (2 ^ n) p) := by
  refine ⟨h, ?_, fun k hk => ?_⟩
  · rw [len_at, Int.toNat_natCast]; simp
  · have e : (at_ (2 ^ n) p)[k] = bit (2 ^ n) p k := by simp [at_]
    rw [e]
    exact plg.bit01 _ _ _
/-- what is made greatest -/
def val (n : Nat) (fair : Bool) (cs : List Int) : Int := if fair then lst (sc cs) n else tot cs n
def G (n : Nat) (fair : Bool) (p : Nat) : Int := val n fair (at_ (2 ^ n) p)
theorem lst_pos (g : Nat → Int) (h : ∀ k, 0 ≤ g k) : ∀ n, 0 ≤ lst g n
  | 0 => Int.le_refl _
  | n + 1 => by
    by_cases hq : n = 0 ∨ g n < lst g n
    · rw [lst_new hq]; exact h n
    · rw [lst_old hq]; exact lst_pos g h n
theorem val_pos (n : Nat) (fair : Bool) (cs : List Int) (h : cs.length ≤ 8) : 0 ≤ val n fair cs := by
  unfold val
  split
  · exact lst_pos _ (fun k => (cdt.sc_bound h k).1) n
  · exact (tot_bound cs h n).1
/-- the greatest of the first k, and the first code that has it -/
def mo (g : Nat → Int) (k : Nat) : Int := if k = 0 then -1 else g (bst g k)
def be (N : Nat) (g : Nat → Int) (k : Nat) : List Int := if k = 0 then [] else at_ N (bst g k)
theorem mo_new {g : Nat → Int} {k : Nat} (h : mo g k < g k) : mo g (k + 1) = g k := by
  unfold mo at *
  rw [if_neg (by omega)]
  by_cases hk : k = 0
  · rw [bst_new (.inl hk)]
  · rw [if_neg hk] at h; rw [bst_new (.inr h)]
theorem be_new {N : Nat} {g : Nat → Int} {k : Nat} (h : mo g k < g k) : be N g (k + 1) = at_ N k := by
  unfold be mo at *
  rw [if_neg (by omega)]
  by_cases hk : k = 0
  · rw [bst_new (.inl hk)]
  · rw [if_neg hk] at h; rw [bst_new (.inr h)]
theorem old {g : Nat → Int} {k : Nat} (hp : 0 ≤ g k) (h : ¬ mo g k < g k) : k ≠ 0 ∧ ¬ (k = 0 ∨ g (bst g k) < g k) := by
  unfold mo at h
  by_cases hk : k = 0
  · rw [if_pos hk] at h; omega
  · rw [if_neg hk] at h; exact ⟨hk, fun h' => h'.elim hk h⟩
theorem mo_old {g : Nat → Int} {k : Nat} (hp : 0 ≤ g k) (h : ¬ mo g k < g k) : mo g (k + 1) = mo g k := by
  obtain ⟨h1, h2⟩ := old hp h
  unfold mo
  rw [if_neg (by omega), if_neg h1, bst_old h2]
theorem be_old {N : Nat} {g : Nat → Int} {k : Nat} (hp : 0 ≤ g k) (h : ¬ mo g k < g k) : be N g (k + 1) = be N g k := by
  obtain ⟨h1, h2⟩ := old hp h
  unfold be
  rw [if_neg (by omega), if_neg h1, bst_old h2]
def okN (n : Int) : Prop := 1 ≤ n ∧ n ≤ 3
/-- the first code with the greatest value -/
def best (n : Nat) (fair : Bool) : List Int := be (2 ^ n) (G n fair) (2 ^ 2 ^ n)
theorem len_be (N : Nat) (g : Nat → Int) (k : Nat) : (be N g k).length ≤ N := by
  unfold be; split
  · exact Nat.zero_le _
  · rw [len_at]; exact Nat.le_refl _
open Classical in
noncomputable def res (fair : Bool) (n : Int) : List Int × Bool := if okN n then (best n.toNat fair, true) else ([], false)
theorem res_yes {fair : Bool} {n : Int} (h : okN n) : res fair n = (best n.toNat fair, true) := if_pos h
theorem res_no {fair : Bool} {n : Int} (h : ¬ okN n) : res fair n = ([], false) := if_neg h
theorem len_res (fair : Bool) (n : Int) : (res fair n).1.length ≤ 1048576 := by
  by_cases h : okN n
  · rw [res_yes h]
    refine Nat.le_trans (len_be _ _ _) (Nat.le_trans (Nat.pow_le_pow_right (by omega) (show n.toNat ≤ 3 by have := h.2; omega)) (by decide))
  · rw [res_no h]; exact Nat.zero_le _


set_option maxRecDepth 100000 in
set_option maxHeartbeats 8000000 in
theorem spec_first_false (n : Nat) (w : World) (hn : 1 ≤ (n : Int) ∧ (n : Int) ≤ 3) :
    Calls Try.prog 66 #[.int .i64 (n : Int), .bool false] w fun e w' => ∃ u, e = .returned u ∧ OwnInts w' w.heap.size w'.heap.size u (best n false) ∧ Below w.heap.size w w' := by
  have HN := Lib.hid hn
  have hn3 : (n : Int) ≤ 3 := hn.2
  have B0 := Lib.hid (below_al (Below.refl w.heap.size w) (.cells #[] 3))
  obtain ⟨N, hN⟩ : ∃ N : Nat, 2 ^ n = N := ⟨_, rfl⟩
  obtain ⟨K, hK⟩ : ∃ K : Nat, 2 ^ N = K := ⟨_, rfl⟩
  have hN8 : N ≤ 8 := by rw [← hN]; exact Nat.le_trans (Nat.pow_le_pow_right (by omega) (show n ≤ 3 by omega)) (by decide)
  have hK256 : K ≤ 256 := by rw [← hK]; exact Nat.le_trans (Nat.pow_le_pow_right (by omega) hN8) (by decide)
  have e1 : (2 : Int) ^ n = (N : Int) := by rw [← hN]; simp
  have e2 : (2 : Int) ^ N = (K : Int) := by rw [← hK]; simp
  have hu : IntKind.u64.wrap (2 ^ n) = (N : Int) := by rw [e1]; exact IntWalk.u64_in _ (by omega)
  have hw1 : wrap64 (2 ^ n) = (N : Int) := by rw [e1]; exact IntWalk.wrap64_in _ (by omega)
  have hw2 : wrap64 (2 ^ N) = (K : Int) := by rw [e2]; exact IntWalk.wrap64_in _ (by omega)
  have hNz : (N : Int) ≤ 8 := by omega
  have hKz : (K : Int) ≤ 256 := by omega
  have HOK := Lib.hid (fun p => ok_at (n := n) (p := p) hn)
  rw [hN] at HOK
  have HB : Hid (best n false = be N (G n false) K) := Lib.hid (by unfold best; rw [hN, hK])
  have HG : Hid (∀ k, G n false k = val n false (at_ N k)) := Lib.hid (fun k => by unfold G; rw [hN])
  have O0 : Hid (OwnInts (w.alloc (.cells #[] 3)) w.heap.size (w.alloc (.cells #[] 3)).heap.size (.slice (some ⟨w.heap.size, 0, none⟩) 0 0) (be N (G n false) 0)) := Lib.hid (by
    have := World.ownsRow_made (base := w.heap.size) (e := 3) (size := 1) w #[] 0 (Nat.le_refl _) (Nat.zero_le _) rfl
    exact app.ints_of_owns (xs := []) (by simpa [i64s] using this))
  obtain ⟨g, hg⟩ : ∃ g, G n false = g := ⟨_, rfl⟩
  rw [hg] at HB HG O0
  clear hn hN hK e1 e2 hg
  go_enter Try.func66, Try.ntmps66
  go_wp2_with fail
  go_loopw [5, 6, 7, 8, 9] (fun bv mv q z8 z9 wr => ∃ (k : Nat) (m : Int), k ≤ K ∧ q = .int .i64 k ∧ mv = .int .i64 m ∧ Hid (m = mo g k) ∧ (∃ z, z8 = z) ∧ (∃ z, z9 = z) ∧ Hid (OwnInts wr w.heap.size wr.heap.size bv (be N g k)) ∧ Hid (Below w.heap.size w wr)) (fun _ _ q _ _ _ => K - (intOf q).toNat)
  case atStart => exact ⟨0, -1, Nat.zero_le _, rfl, rfl, Lib.hid rfl, ⟨_, rfl⟩, ⟨_, rfl⟩, O0, B0⟩
  case round =>
    clear O0 B0
    obtain ⟨k, m, hk, rfl, rfl, hm, ⟨z8, rfl⟩, ⟨z9, rfl⟩, hO, hB⟩ := hrel
    obtain ⟨wi, rfl⟩ : ∃ wi : World, wi = wr := ⟨_, rfl⟩
    obtain ⟨ba, bl, bc, rfl⟩ := hO.out.ints.shape
    have HSZ := Lib.hid hB.out.size
    by_cases hlt : k < K
    · have hkz : (k : Int) < (K : Int) := by omega
      have HLT := Lib.hid hlt
      have HA := Lib.hid (plg.assign N k wi (by omega))
      have hl8 := ok_len8 (HOK.out k)
      have HGP : Hid (0 ≤ g k) := Lib.hid (by rw [HG.out]; exact val_pos _ _ _ hl8)
      have hto := fun v W h => cdt.spec_total n v (at_ N k) W h hl8 (by omega)
      have hle := fun v W h => cdt.spec_least n v (at_ N k) W h hl8 (by omega) (by have := HN.out.1; omega)
      have hgk : tot (at_ N k) n = g k := by rw [HG.out]; rfl
      obtain ⟨y, hy⟩ : ∃ y, g k = y := ⟨_, rfl⟩
      rw [hgk, hy] at hto
      have HTO := Lib.hid hto
      have HLE := Lib.hid hle
      have HY := Lib.hid hy
      have HNEW := Lib.hid (fun h => And.intro (mo_new (g := g) (k := k) h) (be_new (N := N) (g := g) (k := k) h))
      have HOLD := Lib.hid (fun h => And.intro (mo_old (g := g) (k := k) HGP.out h) (be_old (N := N) (g := g) (k := k) HGP.out h))
      clear hlt hl8 hto hle hgk hy
      go_wp2_with fail
      refine HA.out.mono ?_
      rintro e w1 ⟨u, rfl, hu1, hb⟩
      have B1 := Lib.hid (below_tr hB.out hb)
      have O1 := Lib.hid (hO.out.keep hb)
      have hsz1 := hb.size
      have U1 := Lib.hid hu1
      obtain ⟨ua, ul, uc, rfl⟩ := hu1.ints.shape
      clear hb hu1 HA hB hO
      go_wp2_with fail
      refine (HTO.out _ w1 U1.out.ints).mono ?_
      rintro e w2 ⟨rfl, hb⟩
      have B2 := Lib.hid (below_tr B1.out hb)
      have O2 := Lib.hid (O1.out.keep hb)
      have U2 := Lib.hid (U1.out.keep hb)
      have hsz2 := hb.size
      clear hb B1 O1 U1
      have HM := Lib.hid (hm.out ▸ HNEW.out)
      have HM2 := Lib.hid (hm.out ▸ HOLD.out)
      rw [HY.out] at HM HM2
      by_cases hq : m < y
      · have dq : decide (m < y) = true := by simp [hq]
        have H1 := Lib.hid (HM.out hq)
        clear hq HM HM2
        go_wp2_with fail
        go_roundw
        case rel => exact ⟨k + 1, y, by have := HLT.out; omega, by go_num, rfl, Lib.hid H1.out.1.symm, ⟨_, rfl⟩, ⟨_, rfl⟩, Lib.hid (by rw [H1.out.2]; exact U2.out.mono (by have := hsz1; have := hsz2; have := B2.out.size; have := HSZ.out; omega) (by omega)), B2⟩
        case measure => have := HLT.out; simp [intOf]; omega
      · have dq : decide (m < y) = false := by simp; omega
        have H1 := Lib.hid (HM2.out (by omega))
        clear HM HM2
        clear hq
        go_wp2_with fail
        refine ⟨⟨k + 1, m, by have := HLT.out; omega, by go_num, rfl, Lib.hid H1.out.1.symm, ⟨_, rfl⟩, ⟨_, rfl⟩, Lib.hid (by rw [H1.out.2]; exact O2.out.mono (Nat.le_refl _) (by have := hsz1; have := hsz2; omega)), B2⟩, by have := HLT.out; simp [intOf]; omega⟩
    · have hkz : ¬ (k : Int) < (K : Int) := by omega
      obtain rfl : k = K := by omega
      go_wp2_with fail
      go_ret
      rw [HB.out]
      exact ⟨_, rfl, hO.out, hB.out⟩


set_option maxRecDepth 100000 in
set_option maxHeartbeats 8000000 in
theorem spec_first_true (n : Nat) (w : World) (hn : 1 ≤ (n : Int) ∧ (n : Int) ≤ 3) :
    Calls Try.prog 66 #[.int .i64 (n : Int), .bool true] w fun e w' => ∃ u, e = .returned u ∧ OwnInts w' w.heap.size w'.heap.size u (best n true) ∧ Below w.heap.size w w' := by
  have HN := Lib.hid hn
  have hn3 : (n : Int) ≤ 3 := hn.2
  have B0 := Lib.hid (below_al (Below.refl w.heap.size w) (.cells #[] 3))
  obtain ⟨N, hN⟩ : ∃ N : Nat, 2 ^ n = N := ⟨_, rfl⟩
  obtain ⟨K, hK⟩ : ∃ K : Nat, 2 ^ N = K := ⟨_, rfl⟩
  have hN8 : N ≤ 8 := by rw [← hN]; exact Nat.le_trans (Nat.pow_le_pow_right (by omega) (show n ≤ 3 by omega)) (by decide)
  have hK256 : K ≤ 256 := by rw [← hK]; exact Nat.le_trans (Nat.pow_le_pow_right (by omega) hN8) (by decide)
  have e1 : (2 : Int) ^ n = (N : Int) := by rw [← hN]; simp
  have e2 : (2 : Int) ^ N = (K : Int) := by rw [← hK]; simp
  have hu : IntKind.u64.wrap (2 ^ n) = (N : Int) := by rw [e1]; exact IntWalk.u64_in _ (by omega)
  have hw1 : wrap64 (2 ^ n) = (N : Int) := by rw [e1]; exact IntWalk.wrap64_in _ (by omega)
  have hw2 : wrap64 (2 ^ N) = (K : Int) := by rw [e2]; exact IntWalk.wrap64_in _ (by omega)
  have hNz : (N : Int) ≤ 8 := by omega
  have hKz : (K : Int) ≤ 256 := by omega
  have HOK := Lib.hid (fun p => ok_at (n := n) (p := p) hn)
  rw [hN] at HOK
  have HB : Hid (best n true = be N (G n true) K) := Lib.hid (by unfold best; rw [hN, hK])
  have HG : Hid (∀ k, G n true k = val n true (at_ N k)) := Lib.hid (fun k => by unfold G; rw [hN])
  have O0 : Hid (OwnInts (w.alloc (.cells #[] 3)) w.heap.size (w.alloc (.cells #[] 3)).heap.size (.slice (some ⟨w.heap.size, 0, none⟩) 0 0) (be N (G n true) 0)) := Lib.hid (by
    have := World.ownsRow_made (base := w.heap.size) (e := 3) (size := 1) w #[] 0 (Nat.le_refl _) (Nat.zero_le _) rfl
    exact app.ints_of_owns (xs := []) (by simpa [i64s] using this))
  obtain ⟨g, hg⟩ : ∃ g, G n true = g := ⟨_, rfl⟩
  rw [hg] at HB HG O0
  clear hn hN hK e1 e2 hg
  go_enter Try.func66, Try.ntmps66
  go_wp2_with fail
  go_loopw [5, 6, 7, 8, 9] (fun bv mv q z8 z9 wr => ∃ (k : Nat) (m : Int), k ≤ K ∧ q = .int .i64 k ∧ mv = .int .i64 m ∧ Hid (m = mo g k) ∧ (∃ z, z8 = z) ∧ (∃ z, z9 = z) ∧ Hid (OwnInts wr w.heap.size wr.heap.size bv (be N g k)) ∧ Hid (Below w.heap.size w wr)) (fun _ _ q _ _ _ => K - (intOf q).toNat)
  case atStart => exact ⟨0, -1, Nat.zero_le _, rfl, rfl, Lib.hid rfl, ⟨_, rfl⟩, ⟨_, rfl⟩, O0, B0⟩
  case round =>
    clear O0 B0
    obtain ⟨k, m, hk, rfl, rfl, hm, ⟨z8, rfl⟩, ⟨z9, rfl⟩, hO, hB⟩ := hrel
    obtain ⟨wi, rfl⟩ : ∃ wi : World, wi = wr := ⟨_, rfl⟩
    obtain ⟨ba, bl, bc, rfl⟩ := hO.out.ints.shape
    have HSZ := Lib.hid hB.out.size
    by_cases hlt : k < K
    · have hkz : (k : Int) < (K : Int) := by omega
      have HLT := Lib.hid hlt
      have HA := Lib.hid (plg.assign N k wi (by omega))
      have hl8 := ok_len8 (HOK.out k)
      have HGP : Hid (0 ≤ g k) := Lib.hid (by rw [HG.out]; exact val_pos _ _ _ hl8)
      have hto := fun v W h => cdt.spec_total n v (at_ N k) W h hl8 (by omega)
      have hle := fun v W h => cdt.spec_least n v (at_ N k) W h hl8 (by omega) (by have := HN.out.1; omega)
      have hgk : lst (sc (at_ N k)) n = g k := by rw [HG.out]; rfl
      obtain ⟨y, hy⟩ : ∃ y, g k = y := ⟨_, rfl⟩
      rw [hgk, hy] at hle
      have HTO := Lib.hid hto
      have HLE := Lib.hid hle
      have HY := Lib.hid hy
      have HNEW := Lib.hid (fun h => And.intro (mo_new (g := g) (k := k) h) (be_new (N := N) (g := g) (k := k) h))
      have HOLD := Lib.hid (fun h => And.intro (mo_old (g := g) (k := k) HGP.out h) (be_old (N := N) (g := g) (k := k) HGP.out h))
      clear hlt hl8 hto hle hgk hy
      go_wp2_with fail
      refine HA.out.mono ?_
      rintro e w1 ⟨u, rfl, hu1, hb⟩
      have B1 := Lib.hid (below_tr hB.out hb)
      have O1 := Lib.hid (hO.out.keep hb)
      have hsz1 := hb.size
      have U1 := Lib.hid hu1
      obtain ⟨ua, ul, uc, rfl⟩ := hu1.ints.shape
      clear hb hu1 HA hB hO
      go_wp2_with fail
      refine (HTO.out _ w1 U1.out.ints).mono ?_
      rintro e w2 ⟨rfl, hb⟩
      have B2 := Lib.hid (below_tr B1.out hb)
      have O2 := Lib.hid (O1.out.keep hb)
      have U2 := Lib.hid (U1.out.keep hb)
      have hsz2 := hb.size
      clear hb B1 O1 U1
      go_wp2_with fail
      refine (HLE.out _ w2 U2.out.ints).mono ?_
      rintro e w3 ⟨rfl, hb⟩
      have B3 := Lib.hid (below_tr B2.out hb)
      have O3 := Lib.hid (O2.out.keep hb)
      have U3 := Lib.hid (U2.out.keep hb)
      have hsz3 := hb.size
      clear hb B2 O2 U2
      have HM := Lib.hid (hm.out ▸ HNEW.out)
      have HM2 := Lib.hid (hm.out ▸ HOLD.out)
      rw [HY.out] at HM HM2
      by_cases hq : m < y
      · have dq : decide (m < y) = true := by simp [hq]
        have H1 := Lib.hid (HM.out hq)
        clear hq HM HM2
        go_wp2_with fail
        go_roundw
        case rel => exact ⟨k + 1, y, by have := HLT.out; omega, by go_num, rfl, Lib.hid H1.out.1.symm, ⟨_, rfl⟩, ⟨_, rfl⟩, Lib.hid (by rw [H1.out.2]; exact U3.out.mono (by have := hsz1; have := hsz2; have := hsz3; have := B3.out.size; have := HSZ.out; omega) (by omega)), B3⟩
        case measure => have := HLT.out; simp [intOf]; omega
      · have dq : decide (m < y) = false := by simp; omega
        have H1 := Lib.hid (HM2.out (by omega))
        clear HM HM2
        clear hq
        go_wp2_with fail
        refine ⟨⟨k + 1, m, by have := HLT.out; omega, by go_num, rfl, Lib.hid H1.out.1.symm, ⟨_, rfl⟩, ⟨_, rfl⟩, Lib.hid (by rw [H1.out.2]; exact O3.out.mono (Nat.le_refl _) (by have := hsz1; have := hsz2; have := hsz3; omega)), B3⟩, by have := HLT.out; simp [intOf]; omega⟩
    · have hkz : ¬ (k : Int) < (K : Int) := by omega
      obtain rfl : k = K := by omega
      go_wp2_with fail
      go_ret
      rw [HB.out]
      exact ⟨_, rfl, hO.out, hB.out⟩


set_option maxRecDepth 100000 in
set_option maxHeartbeats 8000000 in
theorem impl_first_false (n : Nat) (w : World) (hn : 1 ≤ (n : Int) ∧ (n : Int) ≤ 3) :
    Calls Try.prog 67 #[.int .i64 (n : Int), .func (.func 64) #[] #[]] w fun e w' => ∃ u, e = .returned (.tuple #[u, .bool true]) ∧ OwnInts w' w.heap.size w'.heap.size u (best n false) ∧ Below w.heap.size w w' := by
  have HN := Lib.hid hn
  have hn3 : (n : Int) ≤ 3 := hn.2
  obtain ⟨N, hN⟩ : ∃ N : Nat, 2 ^ n = N := ⟨_, rfl⟩
  obtain ⟨K, hK⟩ : ∃ K : Nat, 2 ^ N = K := ⟨_, rfl⟩
  have hN8 : N ≤ 8 := by rw [← hN]; exact Nat.le_trans (Nat.pow_le_pow_right (by omega) (show n ≤ 3 by omega)) (by decide)
  have hK256 : K ≤ 256 := by rw [← hK]; exact Nat.le_trans (Nat.pow_le_pow_right (by omega) hN8) (by decide)
  have e1 : (2 : Int) ^ n = (N : Int) := by rw [← hN]; simp
  have e2 : (2 : Int) ^ N = (K : Int) := by rw [← hK]; simp
  have hu : IntKind.u64.wrap (2 ^ n) = (N : Int) := by rw [e1]; exact IntWalk.u64_in _ (by omega)
  have hw1 : wrap64 (2 ^ n) = (N : Int) := by rw [e1]; exact IntWalk.wrap64_in _ (by omega)
  have hw2 : wrap64 (2 ^ N) = (K : Int) := by rw [e2]; exact IntWalk.wrap64_in _ (by omega)
  have hNz : (N : Int) ≤ 8 := by omega
  have hKz : (K : Int) ≤ 256 := by omega
  have HOK := Lib.hid (fun p => ok_at (n := n) (p := p) hn)
  rw [hN] at HOK
  have HB : Hid (best n false = be N (G n false) K) := Lib.hid (by unfold best; rw [hN, hK])
  have HG : Hid (∀ k, G n false k = val n false (at_ N k)) := Lib.hid (fun k => by unfold G; rw [hN])
  obtain ⟨g, hg⟩ : ∃ g, G n false = g := ⟨_, rfl⟩
  rw [hg] at HB HG
  clear hn hN hK e1 e2 hg
  go_enter Try.func67, Try.ntmps67
  go_wp2_with fail
  refine (cdi.count_yes _ _ HN.out).mono ?_
  rintro e w' ⟨rfl, rfl⟩
  go_wp2_with fail
  rw [hw2]
  clear hw2 hu
  go_loopw [6, 7, 8, 9, 10, 17] (fun bv mv z8 z9 z10 q wr => ∃ (k : Nat) (m : Int), k ≤ K ∧ q = .int .i64 k ∧ mv = .int .i64 m ∧ Hid (m = mo g k) ∧ (∃ z, z8 = z) ∧ (∃ z, z9 = z) ∧ (∃ z, z10 = z) ∧ Hid (OwnInts wr w.heap.size wr.heap.size bv (be N g k)) ∧ Hid (Below w.heap.size w wr)) (fun _ _ _ _ _ q _ => K - (intOf q).toNat)
  case atStart => exact ⟨0, -1, Nat.zero_le _, rfl, rfl, Lib.hid rfl, ⟨_, rfl⟩, ⟨_, rfl⟩, ⟨_, rfl⟩, Lib.hid (OwnInts.nil _ _ _), Lib.hid (Below.refl _ _)⟩
  case round =>
    obtain ⟨k, m, hk, rfl, rfl, hm, ⟨z8, rfl⟩, ⟨z9, rfl⟩, ⟨z10, rfl⟩, hO, hB⟩ := hrel
    obtain ⟨wi, rfl⟩ : ∃ wi : World, wi = wr := ⟨_, rfl⟩
    obtain ⟨ba, bl, bc, rfl⟩ := hO.out.ints.shape
    have HSZ := Lib.hid hB.out.size
    by_cases hlt : k < K
    · have hkz : (k : Int) < (K : Int) := by omega
      have HLT := Lib.hid hlt
      have HA := Lib.hid (plg.play_at N k wi (by omega))
      have hl8 := ok_len8 (HOK.out k)
      have HGP : Hid (0 ≤ g k) := Lib.hid (by rw [HG.out]; exact val_pos _ _ _ hl8)
      have hto := fun v W h => cdu.total n v (at_ N k) W h (HOK.out k)
      have hgk : tot (at_ N k) n = g k := by rw [HG.out]; rfl
      obtain ⟨y, hy⟩ : ∃ y, g k = y := ⟨_, rfl⟩
      rw [hgk, hy] at hto
      have HTO := Lib.hid hto
      have HY := Lib.hid hy
      have HNEW := Lib.hid (fun h => And.intro (mo_new (g := g) (k := k) h) (be_new (N := N) (g := g) (k := k) h))
      have HOLD := Lib.hid (fun h => And.intro (mo_old (g := g) (k := k) HGP.out h) (be_old (N := N) (g := g) (k := k) HGP.out h))
      clear hlt hl8 hto hgk hy
      go_wp2_with fail
      refine HA.out.mono ?_
      rintro e w1 ⟨u, rfl, hu1, hb⟩
      have B1 := Lib.hid (below_tr hB.out hb)
      have O1 := Lib.hid (hO.out.keep hb)
      have hsz1 := hb.size
      have U1 := Lib.hid hu1
      obtain ⟨ua, ul, uc, rfl⟩ := hu1.ints.shape
      clear hb hu1 HA hB hO
      go_wp2_with fail
      refine (HTO.out _ w1 U1.out.ints).mono ?_
      rintro e w2 ⟨rfl, hb⟩
      have B2 := Lib.hid (below_tr B1.out hb)
      have O2 := Lib.hid (O1.out.keep hb)
      have U2 := Lib.hid (U1.out.keep hb)
      have hsz2 := hb.size
      clear hb B1 O1 U1
      have HM := Lib.hid (hm.out ▸ HNEW.out)
      have HM2 := Lib.hid (hm.out ▸ HOLD.out)
      rw [HY.out] at HM HM2
      by_cases hq : m < y
      · have dq : decide (m < y) = true := by simp [hq]
        have H1 := Lib.hid (HM.out hq)
        clear hq HM HM2
        go_wp2_with fail
        go_roundw
        case rel => exact ⟨k + 1, y, by have := HLT.out; omega, by go_num, rfl, Lib.hid H1.out.1.symm, ⟨_, rfl⟩, ⟨_, rfl⟩, ⟨_, rfl⟩, Lib.hid (by rw [H1.out.2]; exact U2.out.mono (by have := HSZ.out; omega) (by omega)), B2⟩
        case measure => have := HLT.out; simp [intOf]; omega
      · have dq : decide (m < y) = false := by simp; omega
        have H1 := Lib.hid (HM2.out (by omega))
        clear HM HM2 hq
        go_wp2_with fail
        go_roundw
        case rel => exact ⟨k + 1, m, by have := HLT.out; omega, by go_num, rfl, Lib.hid H1.out.1.symm, ⟨_, rfl⟩, ⟨_, rfl⟩, ⟨_, rfl⟩, Lib.hid (by rw [H1.out.2]; exact O2.out.mono (Nat.le_refl _) (by omega)), B2⟩
        case measure => have := HLT.out; simp [intOf]; omega
    · have hkz : ¬ (k : Int) < (K : Int) := by omega
      obtain rfl : k = K := by omega
      go_wp2_with fail
      go_ret2
      rw [HB.out]
      exact ⟨_, rfl, hO.out, hB.out⟩
theorem impl_none_false (n : Int) (w : World) (hn : ¬ (1 ≤ n ∧ n ≤ 3)) :
    Calls Try.prog 67 #[.int .i64 n, .func (.func 64) #[] #[]] w fun e w' => e = .returned (.tuple #[.slice none 0 0, .bool false]) ∧ w = w' := by
  have HN := Lib.hid hn
  clear hn
  go_enter Try.func67, Try.ntmps67
  go_wp2_with fail
  refine (cdi.count_no _ _ HN.out).mono ?_
  rintro e w' ⟨rfl, rfl⟩
  go_wp2_with fail
  go_ret2
  exact ⟨rfl, rfl⟩


set_option maxRecDepth 100000 in
set_option maxHeartbeats 8000000 in
theorem impl_first_true (n : Nat) (w : World) (hn : 1 ≤ (n : Int) ∧ (n : Int) ≤ 3) :
    Calls Try.prog 67 #[.int .i64 (n : Int), .func (.func 68) #[] #[]] w fun e w' => ∃ u, e = .returned (.tuple #[u, .bool true]) ∧ OwnInts w' w.heap.size w'.heap.size u (best n true) ∧ Below w.heap.size w w' := by
  have HN := Lib.hid hn
  have hn3 : (n : Int) ≤ 3 := hn.2
  obtain ⟨N, hN⟩ : ∃ N : Nat, 2 ^ n = N := ⟨_, rfl⟩
  obtain ⟨K, hK⟩ : ∃ K : Nat, 2 ^ N = K := ⟨_, rfl⟩
  have hN8 : N ≤ 8 := by rw [← hN]; exact Nat.le_trans (Nat.pow_le_pow_right (by omega) (show n ≤ 3 by omega)) (by decide)
  have hK256 : K ≤ 256 := by rw [← hK]; exact Nat.le_trans (Nat.pow_le_pow_right (by omega) hN8) (by decide)
  have e1 : (2 : Int) ^ n = (N : Int) := by rw [← hN]; simp
  have e2 : (2 : Int) ^ N = (K : Int) := by rw [← hK]; simp
  have hu : IntKind.u64.wrap (2 ^ n) = (N : Int) := by rw [e1]; exact IntWalk.u64_in _ (by omega)
  have hw1 : wrap64 (2 ^ n) = (N : Int) := by rw [e1]; exact IntWalk.wrap64_in _ (by omega)
  have hw2 : wrap64 (2 ^ N) = (K : Int) := by rw [e2]; exact IntWalk.wrap64_in _ (by omega)
  have hNz : (N : Int) ≤ 8 := by omega
  have hKz : (K : Int) ≤ 256 := by omega
  have HOK := Lib.hid (fun p => ok_at (n := n) (p := p) hn)
  rw [hN] at HOK
  have HB : Hid (best n true = be N (G n true) K) := Lib.hid (by unfold best; rw [hN, hK])
  have HG : Hid (∀ k, G n true k = val n true (at_ N k)) := Lib.hid (fun k => by unfold G; rw [hN])
  obtain ⟨g, hg⟩ : ∃ g, G n true = g := ⟨_, rfl⟩
  rw [hg] at HB HG
  clear hn hN hK e1 e2 hg
  go_enter Try.func67, Try.ntmps67
  go_wp2_with fail
  refine (cdi.count_yes _ _ HN.out).mono ?_
  rintro e w' ⟨rfl, rfl⟩
  go_wp2_with fail
  rw [hw2]
  clear hw2 hu
  go_loopw [6, 7, 8, 9, 10, 17] (fun bv mv z8 z9 z10 q wr => ∃ (k : Nat) (m : Int), k ≤ K ∧ q = .int .i64 k ∧ mv = .int .i64 m ∧ Hid (m = mo g k) ∧ (∃ z, z8 = z) ∧ (∃ z, z9 = z) ∧ (∃ z, z10 = z) ∧ Hid (OwnInts wr w.heap.size wr.heap.size bv (be N g k)) ∧ Hid (Below w.heap.size w wr)) (fun _ _ _ _ _ q _ => K - (intOf q).toNat)
  case atStart => exact ⟨0, -1, Nat.zero_le _, rfl, rfl, Lib.hid rfl, ⟨_, rfl⟩, ⟨_, rfl⟩, ⟨_, rfl⟩, Lib.hid (OwnInts.nil _ _ _), Lib.hid (Below.refl _ _)⟩
  case round =>
    obtain ⟨k, m, hk, rfl, rfl, hm, ⟨z8, rfl⟩, ⟨z9, rfl⟩, ⟨z10, rfl⟩, hO, hB⟩ := hrel
    obtain ⟨wi, rfl⟩ : ∃ wi : World, wi = wr := ⟨_, rfl⟩
    obtain ⟨ba, bl, bc, rfl⟩ := hO.out.ints.shape
    have HSZ := Lib.hid hB.out.size
    by_cases hlt : k < K
    · have hkz : (k : Int) < (K : Int) := by omega
      have HLT := Lib.hid hlt
      have HA := Lib.hid (plg.play_at N k wi (by omega))
      have hl8 := ok_len8 (HOK.out k)
      have HGP : Hid (0 ≤ g k) := Lib.hid (by rw [HG.out]; exact val_pos _ _ _ hl8)
      have hto := fun v W h => cdu.least n v (at_ N k) W h (HOK.out k)
      have hgk : lst (sc (at_ N k)) n = g k := by rw [HG.out]; rfl
      obtain ⟨y, hy⟩ : ∃ y, g k = y := ⟨_, rfl⟩
      rw [hgk, hy] at hto
      have HTO := Lib.hid hto
      have HY := Lib.hid hy
      have HNEW := Lib.hid (fun h => And.intro (mo_new (g := g) (k := k) h) (be_new (N := N) (g := g) (k := k) h))
      have HOLD := Lib.hid (fun h => And.intro (mo_old (g := g) (k := k) HGP.out h) (be_old (N := N) (g := g) (k := k) HGP.out h))
      clear hlt hl8 hto hgk hy
      go_wp2_with fail
      refine HA.out.mono ?_
      rintro e w1 ⟨u, rfl, hu1, hb⟩
      have B1 := Lib.hid (below_tr hB.out hb)
      have O1 := Lib.hid (hO.out.keep hb)
      have hsz1 := hb.size
      have U1 := Lib.hid hu1
      obtain ⟨ua, ul, uc, rfl⟩ := hu1.ints.shape
      clear hb hu1 HA hB hO
      go_wp2_with fail
      refine (HTO.out _ w1 U1.out.ints).mono ?_
      rintro e w2 ⟨rfl, hb⟩
      have B2 := Lib.hid (below_tr B1.out hb)
      have O2 := Lib.hid (O1.out.keep hb)
      have U2 := Lib.hid (U1.out.keep hb)
      have hsz2 := hb.size
      clear hb B1 O1 U1
      have HM := Lib.hid (hm.out ▸ HNEW.out)
      have HM2 := Lib.hid (hm.out ▸ HOLD.out)
      rw [HY.out] at HM HM2
      by_cases hq : m < y
      · have dq : decide (m < y) = true := by simp [hq]
        have H1 := Lib.hid (HM.out hq)
        clear hq HM HM2
        go_wp2_with fail
        go_roundw
        case rel => exact ⟨k + 1, y, by have := HLT.out; omega, by go_num, rfl, Lib.hid H1.out.1.symm, ⟨_, rfl⟩, ⟨_, rfl⟩, ⟨_, rfl⟩, Lib.hid (by rw [H1.out.2]; exact U2.out.mono (by have := HSZ.out; omega) (by omega)), B2⟩
        case measure => have := HLT.out; simp [intOf]; omega
      · have dq : decide (m < y) = false := by simp; omega
        have H1 := Lib.hid (HM2.out (by omega))
        clear HM HM2 hq
        go_wp2_with fail
        go_roundw
        case rel => exact ⟨k + 1, m, by have := HLT.out; omega, by go_num, rfl, Lib.hid H1.out.1.symm, ⟨_, rfl⟩, ⟨_, rfl⟩, ⟨_, rfl⟩, Lib.hid (by rw [H1.out.2]; exact O2.out.mono (Nat.le_refl _) (by omega)), B2⟩
        case measure => have := HLT.out; simp [intOf]; omega
    · have hkz : ¬ (k : Int) < (K : Int) := by omega
      obtain rfl : k = K := by omega
      go_wp2_with fail
      go_ret2
      rw [HB.out]
      exact ⟨_, rfl, hO.out, hB.out⟩
theorem impl_none_true (n : Int) (w : World) (hn : ¬ (1 ≤ n ∧ n ≤ 3)) :
    Calls Try.prog 67 #[.int .i64 n, .func (.func 68) #[] #[]] w fun e w' => e = .returned (.tuple #[.slice none 0 0, .bool false]) ∧ w = w' := by
  have HN := Lib.hid hn
  clear hn
  go_enter Try.func67, Try.ntmps67
  go_wp2_with fail
  refine (cdi.count_no _ _ HN.out).mono ?_
  rintro e w' ⟨rfl, rfl⟩
  go_wp2_with fail
  go_ret2
  exact ⟨rfl, rfl⟩


set_option maxHeartbeats 1000000 in
theorem spec_false (n : Int) (w : World) :
    Calls Try.prog 30 #[.int .i64 n] w fun e w' => ∃ u, e = .returned (.tuple #[u, .bool (res false n).2]) ∧ Ints w' u (res false n).1 ∧ Below w.heap.size w w' := by
  by_cases hn : 1 ≤ n ∧ n ≤ 3
  · rw [res_yes hn]
    obtain ⟨m, rfl⟩ : ∃ m : Nat, n = m := ⟨n.toNat, by omega⟩
    rw [Int.toNat_natCast]
    have HN := Lib.hid hn
    clear hn
    go_enter Try.func30, Try.ntmps30
    go_wp2_with fail
    refine (val.in_yes _ _ _ _ HN.out.1 HN.out.2).mono ?_
    rintro e w' ⟨rfl, rfl⟩
    go_wp2_with fail
    refine (spec_first_false m w HN.out).mono ?_
    rintro e w1 ⟨u, rfl, hu, hb⟩
    go_wp2_with fail
    go_ret2
    exact ⟨_, rfl, hu.ints, hb⟩
  · rw [res_no hn]
    have hb : n < 1 ∨ 3 < n := by omega
    clear hn
    go_enter Try.func30, Try.ntmps30
    go_wp2_with fail
    refine (val.in_no _ _ _ _ hb).mono ?_
    rintro e w' ⟨rfl, rfl⟩
    clear hb
    go_wp2_with fail
    go_ret2
    exact ⟨_, rfl, app.empty _ _ _ (Nat.zero_le _), below_al (Below.refl _ _) _⟩


set_option maxHeartbeats 1000000 in
theorem impl_false (n : Int) (w : World) :
    Calls Try.prog 31 #[.int .i64 n] w fun e w' => ∃ u, e = .returned (.tuple #[u, .bool (res false n).2]) ∧ OwnInts w' w.heap.size w'.heap.size u (res false n).1 ∧ Below w.heap.size w w' := by
  by_cases hn : 1 ≤ n ∧ n ≤ 3
  · rw [res_yes hn]
    obtain ⟨m, rfl⟩ : ∃ m : Nat, n = m := ⟨n.toNat, by omega⟩
    rw [Int.toNat_natCast]
    have H := Lib.hid (impl_first_false m w hn)
    clear hn
    go_enter Try.func31, Try.ntmps31
    go_wp2_with fail
    refine H.out.mono ?_
    rintro e w1 ⟨u, rfl, hu, hb⟩
    go_wp2_with fail
    go_ret2
    exact ⟨_, rfl, hu, hb⟩
  · rw [res_no hn]
    have H := Lib.hid (impl_none_false n w hn)
    clear hn
    go_enter Try.func31, Try.ntmps31
    go_wp2_with fail
    refine H.out.mono ?_
    rintro e w1 ⟨rfl, rfl⟩
    go_wp2_with fail
    go_ret2
    exact ⟨_, rfl, OwnInts.nil _ _ _, Below.refl _ _⟩


set_option maxHeartbeats 1000000 in
theorem spec_true (n : Int) (w : World) :
    Calls Try.prog 32 #[.int .i64 n] w fun e w' => ∃ u, e = .returned (.tuple #[u, .bool (res true n).2]) ∧ Ints w' u (res true n).1 ∧ Below w.heap.size w w' := by
  by_cases hn : 1 ≤ n ∧ n ≤ 3
  · rw [res_yes hn]
    obtain ⟨m, rfl⟩ : ∃ m : Nat, n = m := ⟨n.toNat, by omega⟩
    rw [Int.toNat_natCast]
    have HN := Lib.hid hn
    clear hn
    go_enter Try.func32, Try.ntmps32
    go_wp2_with fail
    refine (val.in_yes _ _ _ _ HN.out.1 HN.out.2).mono ?_
    rintro e w' ⟨rfl, rfl⟩
    go_wp2_with fail
    refine (spec_first_true m w HN.out).mono ?_
    rintro e w1 ⟨u, rfl, hu, hb⟩
    go_wp2_with fail
    go_ret2
    exact ⟨_, rfl, hu.ints, hb⟩
  · rw [res_no hn]
    have hb : n < 1 ∨ 3 < n := by omega
    clear hn
    go_enter Try.func32, Try.ntmps32
    go_wp2_with fail
    refine (val.in_no _ _ _ _ hb).mono ?_
    rintro e w' ⟨rfl, rfl⟩
    clear hb
    go_wp2_with fail
    go_ret2
    exact ⟨_, rfl, app.empty _ _ _ (Nat.zero_le _), below_al (Below.refl _ _) _⟩


set_option maxHeartbeats 1000000 in
theorem impl_true (n : Int) (w : World) :
    Calls Try.prog 33 #[.int .i64 n] w fun e w' => ∃ u, e = .returned (.tuple #[u, .bool (res true n).2]) ∧ OwnInts w' w.heap.size w'.heap.size u (res true n).1 ∧ Below w.heap.size w w' := by
  by_cases hn : 1 ≤ n ∧ n ≤ 3
  · rw [res_yes hn]
    obtain ⟨m, rfl⟩ : ∃ m : Nat, n = m := ⟨n.toNat, by omega⟩
    rw [Int.toNat_natCast]
    have H := Lib.hid (impl_first_true m w hn)
    clear hn
    go_enter Try.func33, Try.ntmps33
    go_wp2_with fail
    refine H.out.mono ?_
    rintro e w1 ⟨u, rfl, hu, hb⟩
    go_wp2_with fail
    go_ret2
    exact ⟨_, rfl, hu, hb⟩
  · rw [res_no hn]
    have H := Lib.hid (impl_none_true n w hn)
    clear hn
    go_enter Try.func33, Try.ntmps33
    go_wp2_with fail
    refine H.out.mono ?_
    rintro e w1 ⟨rfl, rfl⟩
    go_wp2_with fail
    go_ret2
    exact ⟨_, rfl, OwnInts.nil _ _ _, Below.refl _ _⟩

end Go.Proofs.Ytnjaocgciokpaaa.bco
