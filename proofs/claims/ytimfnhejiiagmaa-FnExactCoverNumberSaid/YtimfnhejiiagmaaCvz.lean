/- Both families of masks have covers with as few members. -/
import Derived.Test.YtimfnhejiiagmaaCvx
import Derived.Test.YtimfnhejiiagmaaCvr
namespace Go.Proofs.Ytimfnhejiiagmaa.cvz
open Go.RowKit Go.Deep Go.Proofs.Ytimfnhejiiagmaa.base
open Go.Proofs.Ytimfnhejiiagmaa.plays (bit)
open Go.Proofs.Ytimfnhejiiagmaa.task (okTask wide taskB taskB_yes taskB_no)
open Go.Proofs.Ytimfnhejiiagmaa.grid (nn at_ inB)
open Go.Proofs.Ytimfnhejiiagmaa.cvm Go.Proofs.Ytimfnhejiiagmaa.chc Go.Proofs.Ytimfnhejiiagmaa.cvo Go.Proofs.Ytimfnhejiiagmaa.cvn Go.Proofs.Ytimfnhejiiagmaa.cvr Go.Proofs.Ytimfnhejiiagmaa.cvk Go.Proofs.Ytimfnhejiiagmaa.cvw Go.Proofs.Ytimfnhejiiagmaa.cvx

set_option maxRecDepth 100000 in
theorem to_d : ∀ s : Fin 5, ∀ c : Fin 16, 1 ≤ c.val → c.val < 2 ^ s.val → ∃ d : Fin 16, (1 ≤ d.val ∧ d.val ≤ fp s.val ∧ andNot d.val (fp s.val) = 0) ∧ ∀ i : Fin 4, bit 4 d.val i.val = 1 ↔ (i.val < s.val ∧ c.val / 2 ^ i.val % 2 = 1) := by decide +kernel
set_option maxRecDepth 100000 in
theorem to_c : ∀ s : Fin 5, ∀ d : Fin 16, 1 ≤ d.val → d.val ≤ fp s.val → andNot d.val (fp s.val) = 0 → ∃ c : Fin 16, (1 ≤ c.val ∧ c.val < 2 ^ s.val) ∧ ∀ i : Fin 4, i.val < s.val → (bit 4 d.val i.val = 1 ↔ c.val / 2 ^ i.val % 2 = 1) := by decide +kernel
theorem has_bit : ∀ d : Fin 16, 1 ≤ d.val → ∃ i : Fin 4, bit 4 d.val i.val = 1 := by decide +kernel
theorem pls_mem {d i : Nat} (hi : i < 4) (hb : bit 4 d i = 1) : ∃ a, a < (pls d 4).length ∧ at_ (pls d 4) a = i :=
  at_mem (by unfold pls; rw [List.mem_map]; exact ⟨i, List.mem_filter.2 ⟨List.mem_range.2 hi, by simpa using hb⟩, rfl⟩)
theorem chs_mem {d c : Nat} (h1 : 1 ≤ c) (h2 : c ≤ d) (h3 : andNot c d = 0) : ∃ a, a < (chs d d).length ∧ at_ (chs d d) a = c :=
  at_mem (by
    unfold chs; rw [List.mem_map]
    exact ⟨c, List.mem_filter.2 ⟨List.mem_map.2 ⟨c - 1, List.mem_range.2 (by omega), by omega⟩, by simpa using h3⟩, rfl⟩)
/-- a rectangle given by codes is among the program's -/
theorem fam_of {T : List (List Int)} {bt : Int} (hok : okTask T) {c cc : Nat} (h1 : 1 ≤ c) (h2 : c < 2 ^ T.length) (h3 : 1 ≤ cc) (h4 : cc < 2 ^ wide T)
    (hg : ∀ i j, i < T.length → c / 2 ^ i % 2 = 1 → j < wide T → cc / 2 ^ j % 2 = 1 → nn T i j = bt) :
    ∃ f ∈ fam T bt, ∀ i j, i < T.length → c / 2 ^ i % 2 = 1 → j < wide T → cc / 2 ^ j % 2 = 1 → f.testBit (i * 4 + j) = true := by
  have hX4 := hok.1.2
  have hY4 := hok.2.1.2
  have q1 : 2 ^ T.length ≤ 16 := Nat.pow_le_pow_right (n := 2) (j := 4) (by omega) hX4
  have q2 : 2 ^ wide T ≤ 16 := Nat.pow_le_pow_right (n := 2) (j := 4) (by omega) hY4
  obtain ⟨d, ⟨d1, d2, d3⟩, d4⟩ := to_d ⟨T.length, by omega⟩ ⟨c, by omega⟩ h1 h2
  obtain ⟨e, ⟨e1, e2, e3⟩, e4⟩ := to_d ⟨wide T, by omega⟩ ⟨cc, by omega⟩ h3 h4
  obtain ⟨a, ha, ea⟩ := chs_mem d1 d2 d3
  obtain ⟨b, hb, eb⟩ := chs_mem e1 e2 e3
  refine ⟨_, (mem_allC _).2 ⟨a, b, ha, hb, ?_, rfl⟩, ?_⟩
  · intro a' b' ha' hb'
    rw [ea] at ha' ⊢
    rw [eb] at hb' ⊢
    obtain ⟨_, p2, p3⟩ := pls_at ha'
    obtain ⟨_, r2, r3⟩ := pls_at hb'
    have u1 := (d4 ⟨_, p2⟩).1 p3
    have u2 := (e4 ⟨_, r2⟩).1 r3
    exact hg _ _ u1.1 u1.2 u2.1 u2.2
  · intro i j hi hci hj hcj
    rw [allM_bit]
    obtain ⟨a', ha', ea'⟩ := pls_mem (d := d.val) (i := i) (by omega) ((d4 ⟨i, by omega⟩).2 ⟨hi, hci⟩)
    obtain ⟨b', hb', eb'⟩ := pls_mem (d := e.val) (i := j) (by omega) ((e4 ⟨j, by omega⟩).2 ⟨hj, hcj⟩)
    rw [ea, eb]
    exact ⟨a', b', ha', hb', by rw [ea', eb']⟩
/-- what a mask of the program is -/
theorem fam_is {T : List (List Int)} {bt : Int} (hok : okTask T) {f : Nat} (hf : f ∈ fam T bt) :
    ∃ d e : Nat, (1 ≤ d ∧ d ≤ fp T.length ∧ andNot d (fp T.length) = 0) ∧ (1 ≤ e ∧ e ≤ fp (wide T) ∧ andNot e (fp (wide T)) = 0) ∧
      (∀ i j, i < T.length → j < wide T → bit 4 d i = 1 → bit 4 e j = 1 → nn T i j = bt) ∧
      ∀ p, f.testBit p = true → ∃ i j, i < T.length ∧ j < wide T ∧ p = i * 4 + j ∧ bit 4 d i = 1 ∧ bit 4 e j = 1 := by
  have hX4 := hok.1.2
  have hY4 := hok.2.1.2
  obtain ⟨a, b, ha, hb, ho, rfl⟩ := (mem_allC _).1 hf
  obtain ⟨_, a1, a2, a3⟩ := chs_at ha
  obtain ⟨_, b1, b2, b3⟩ := chs_at hb
  refine ⟨_, _, ⟨a1, a2, a3⟩, ⟨b1, b2, b3⟩, ?_, ?_⟩
  · intro i j hi hj hbi hbj
    obtain ⟨a', ha', ea'⟩ := pls_mem (by omega) hbi
    obtain ⟨b', hb', eb'⟩ := pls_mem (by omega) hbj
    have := ho a' b' ha' hb'
    rw [ea', eb'] at this
    exact this
  · intro p hp
    rw [allM_bit] at hp
    obtain ⟨a', b', ha', hb', e⟩ := hp
    exact ⟨_, _, place_lt hok.1.1 hX4 ha ha', place_lt hok.2.1.1 hY4 hb hb', e, (pls_at ha').2.2, (pls_at hb').2.2⟩
def R (X Y p q : Nat) : Prop := ∃ i j, i < X ∧ j < Y ∧ p = i * 4 + j ∧ q = i * Y + j
theorem prog_full {T : List (List Int)} {bt : Int} {p : Nat} : (orC (fam T bt) (fam T bt).length).testBit p = true ↔ ∃ f ∈ fam T bt, f.testBit p = true := by
  have := orC_bit (p := p) (cs := fam T bt) _ (Nat.le_refl _)
  rwa [List.take_length] at this
theorem two_pow_bit (i j : Nat) : 2 ^ i / 2 ^ j % 2 = 1 ↔ i = j := by
  rw [← tb, Nat.testBit_two_pow, decide_eq_true_iff]
theorem lin {Y i j i' j' : Nat} (h : i * Y + j = i' * Y + j') (hj : j < Y) (hj' : j' < Y) : i = i' ∧ j = j' := by
  have e : i = i' := by
    rcases Nat.lt_trichotomy i i' with l | l | l
    · have h5 : (i + 1) * Y ≤ i' * Y := Nat.mul_le_mul_right Y l
      rw [Nat.succ_mul] at h5; omega
    · exact l
    · have h5 : (i' + 1) * Y ≤ i * Y := Nat.mul_le_mul_right Y l
      rw [Nat.succ_mul] at h5; omega
  subst e
  exact ⟨rfl, by omega⟩
theorem to_model {T : List (List Int)} {bt : Int} (hok : okTask T) {k : Nat} (h : Cov (fam T bt) (orC (fam T bt) (fam T bt).length) k) : Cov (famM T bt) (wholeM T bt) k := by
  have hX4 := hok.1.2
  have hY4 := hok.2.1.2
  refine cov_map (R T.length (wide T)) (fun f hf => ?_) (fun q hq => ?_) h
  · obtain ⟨d, e, ⟨d1, d2, d3⟩, ⟨e1, e2, e3⟩, hn, hb⟩ := fam_is hok hf
    have f1 := fp_le _ hok.1.1 hX4
    have f2 := fp_le _ hok.2.1.1 hY4
    obtain ⟨c, ⟨c1, c2⟩, c3⟩ := to_c ⟨T.length, by omega⟩ ⟨d, by omega⟩ d1 d2 d3
    have cols : ∀ j, j < wide T → bit 4 e j = 1 → (colM T bt c.val T.length (wide T)).testBit j = true := fun j hj hbj =>
      (colM_bit _).2 ⟨hj, fun i hi hci => hn i j hi hj ((c3 ⟨i, by omega⟩ hi).2 hci) hbj⟩
    obtain ⟨j0, hj0⟩ := has_bit ⟨e, by omega⟩ e1
    have hj0Y : j0.val < wide T := in_first ⟨wide T, by omega⟩ ⟨e, by omega⟩ e3 j0 hj0
    have hpos : 0 < colM T bt c.val T.length (wide T) := by
      apply Nat.pos_iff_ne_zero.2
      intro h0
      have := cols j0.val hj0Y hj0
      rw [h0] at this; simp at this
    refine ⟨_, (mem_recC _).2 ⟨c.val, c1, by simp at c2; omega, hpos, rfl⟩, ?_⟩
    rintro p q ⟨i, j, hi, hj, rfl, rfl⟩ hfb
    obtain ⟨i', j', hi', hj', he, hbi, hbj⟩ := hb _ hfb
    obtain ⟨rfl, rfl⟩ := lin (Y := 4) he (by omega) (by omega)
    exact (rowP_bit (colM_lt _) _).2 ⟨i, j, hi, hj, rfl, (c3 ⟨i, by omega⟩ hi).1 hbi, cols j hj hbj⟩
  · obtain ⟨i, j, hi, hj, rfl, hnn⟩ := (allW_bit _).1 hq
    refine ⟨i * 4 + j, ⟨i, j, hi, hj, rfl, rfl⟩, prog_full.2 ?_⟩
    obtain ⟨f, hf, hfb⟩ := fam_of (T := T) (bt := bt) hok (c := 2 ^ i) (cc := 2 ^ j) (Nat.pow_pos (by omega)) (Nat.pow_lt_pow_right (by omega) hi) (Nat.pow_pos (by omega)) (Nat.pow_lt_pow_right (by omega) hj) (fun i' j' _ h1 _ h2 => by
      rw [← (two_pow_bit i i').1 h1, ← (two_pow_bit j j').1 h2]; exact hnn)
    exact ⟨f, hf, hfb i j hi ((two_pow_bit i i).2 rfl) hj ((two_pow_bit j j).2 rfl)⟩
theorem to_prog {T : List (List Int)} {bt : Int} (hok : okTask T) {k : Nat} (h : Cov (famM T bt) (wholeM T bt) k) : Cov (fam T bt) (orC (fam T bt) (fam T bt).length) k := by
  have hX4 := hok.1.2
  have hY4 := hok.2.1.2
  refine cov_map (fun q p => R T.length (wide T) p q) (fun g hg => ?_) (fun p hp => ?_) h
  · obtain ⟨c, c1, c2, hpos, rfl⟩ := (mem_recC _).1 hg
    have hp2 : 0 < 2 ^ T.length := Nat.pow_pos (by omega)
    obtain ⟨f, hf, hfb⟩ := fam_of (T := T) (bt := bt) hok (c := c) (cc := colM T bt c T.length (wide T)) c1 (by omega) hpos (colM_lt _) (fun i j hi hci hj hcj => ((colM_bit _).1 ((tb _ _).2 hcj)).2 i hi hci)
    refine ⟨f, hf, ?_⟩
    rintro q p ⟨i, j, hi, hj, rfl, rfl⟩ hgb
    obtain ⟨i', j', hi', hj', he, hci, hcj⟩ := (rowP_bit (colM_lt _) _).1 hgb
    obtain ⟨rfl, rfl⟩ := lin he hj hj'
    exact hfb i j hi hci hj ((tb _ _).1 hcj)
  · obtain ⟨f, hf, hfb⟩ := prog_full.1 hp
    obtain ⟨d, e, _, _, hn, hb⟩ := fam_is hok hf
    obtain ⟨i, j, hi, hj, rfl, hbi, hbj⟩ := hb _ hfb
    exact ⟨i * wide T + j, ⟨i, j, hi, hj, rfl, rfl⟩, (allW_bit _).2 ⟨i, j, hi, hj, rfl, hn i j hi hj hbi hbj⟩⟩
theorem famM_lt {T : List (List Int)} {bt : Int} (hok : okTask T) : wholeM T bt < 2 ^ 16 :=
  Nat.lt_of_lt_of_le (allW_lt _) (Nat.pow_le_pow_right (by omega) (Nat.mul_le_mul hok.1.2 hok.2.1.2))
theorem same {T : List (List Int)} {bt : Int} (hok : okTask T) (k : Nat) : can (famM T bt) 16 k (wholeM T bt) = can (fam T bt) 16 k (orC (fam T bt) (fam T bt).length) := by
  have hP : orC (fam T bt) (fam T bt).length < 2 ^ 16 := orC_lt (fun c hc => allC_lt hc) _ (Nat.le_refl _)
  rw [Bool.eq_iff_iff, can_iff _ _ _ _ (famM_lt hok), can_iff _ _ _ _ hP]
  exact ⟨to_prog hok, to_model hok⟩
open Classical in
/-- the number of masks -/
noncomputable def num (T : List (List Int)) (bt : Int) : Nat := if h : ∃ c, Least (fam T bt) c then Classical.choose h else 0
theorem num_is {T : List (List Int)} {bt : Int} {c : Nat} (h : Least (fam T bt) c) : c = num T bt := by
  have hx : ∃ c, Least (fam T bt) c := ⟨c, h⟩
  unfold num
  rw [dif_pos hx]
  have h2 := Classical.choose_spec hx
  exact least_unique (fun _ => rfl) h.2.1 h.2.2 h2.2.1 h2.2.2
theorem num_isM {T : List (List Int)} {bt : Int} (hok : okTask T) {c : Nat} (h : LeastM (famM T bt) (wholeM T bt) c) : c = num T bt :=
  num_is ⟨h.1, by rw [← same hok]; exact h.2.1, fun j hj => by rw [← same hok]; exact h.2.2 j hj⟩
open Classical in
/-- what CoverNumber answers -/
noncomputable def res (T : List (List Int)) (bt : Int) : Int × Bool := if okTask T ∧ (bt = 0 ∨ bt = 1) then ((num T bt : Int), true) else (0, false)
theorem res_yes {T : List (List Int)} {bt : Int} (h : okTask T) (hb : bt = 0 ∨ bt = 1) : res T bt = ((num T bt : Int), true) := if_pos ⟨h, hb⟩
theorem res_no {T : List (List Int)} {bt : Int} (h : ¬ (okTask T ∧ (bt = 0 ∨ bt = 1))) : res T bt = (0, false) := if_neg h

theorem impl_any (v : Value) (T : List (List Int)) (bt : Int) (w : World) (h : IRows w v T) :
    Calls Try.prog 60 #[v, .int .i64 bt] w fun e w' => e = .returned (.tuple #[.int .i64 (res T bt).1, .bool (res T bt).2]) ∧ Below w.heap.size w w' := by
  by_cases hb : okTask T ∧ (bt = 0 ∨ bt = 1)
  · rw [res_yes hb.1 hb.2]
    refine (impl_yes v T bt w h hb.1 hb.2).mono ?_
    rintro e w' ⟨⟨c, hc, rfl⟩, hB⟩
    rw [num_is hc]
    exact ⟨rfl, hB⟩
  · rw [res_no hb]
    exact impl_no v T bt w h hb


set_option maxHeartbeats 2000000 in
theorem spec_no (v : Value) (T : List (List Int)) (bt : Int) (w : World) (h : IRows w v T) (hno : ¬ (okTask T ∧ (bt = 0 ∨ bt = 1))) :
    Calls Try.prog 59 #[v, .int .i64 bt] w fun e w' => e = .returned (.tuple #[.int .i64 0, .bool false]) ∧ Below w.heap.size w w' := by
  have HT := Lib.hid (task.spec_task v T w h)
  obtain ⟨va, vn, vc, rfl⟩ := h.shape
  by_cases hok : okTask T
  · rw [taskB_yes hok] at HT
    have hnb : bt < 0 ∨ 1 < bt := by
      apply Classical.byContradiction
      intro hx
      exact hno ⟨hok, by omega⟩
    clear hok hno h
    go_enter Try.func59, Try.ntmps59
    go_wp2_with fail
    refine HT.out.mono ?_
    rintro e w1 ⟨rfl, q, rfl⟩
    go_wp2_with fail
    refine (val.in_no _ _ _ _ hnb).mono ?_
    rintro e w1' ⟨rfl, rfl⟩
    go_wp2_with fail
    go_ret2
    exact ⟨rfl, below_drewN (Below.refl _ _) _⟩
  · rw [taskB_no hok] at HT
    clear hok hno h
    go_enter Try.func59, Try.ntmps59
    go_wp2_with fail
    refine HT.out.mono ?_
    rintro e w1 ⟨rfl, q, rfl⟩
    go_wp2_with fail
    go_ret2
    exact ⟨rfl, below_drewN (Below.refl _ _) _⟩
theorem spec_any (v : Value) (T : List (List Int)) (bt : Int) (w : World) (h : IRows w v T) :
    Calls Try.prog 59 #[v, .int .i64 bt] w fun e w' => e = .returned (.tuple #[.int .i64 (res T bt).1, .bool (res T bt).2]) ∧ Below w.heap.size w w' := by
  by_cases hb : okTask T ∧ (bt = 0 ∨ bt = 1)
  · rw [res_yes hb.1 hb.2]
    refine (spec_yes v T bt w h hb.1 hb.2 (by rw [same hb.1]; exact can_16 (fun c hc => allC_lt hc))).mono ?_
    rintro e w' ⟨⟨c, hc, rfl⟩, hB⟩
    rw [num_isM hb.1 hc]
    exact ⟨rfl, hB⟩
  · rw [res_no hb]
    exact spec_no v T bt w h hb

end Go.Proofs.Ytimfnhejiiagmaa.cvz
