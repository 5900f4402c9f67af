/- Lists of Rules in memory of their own: the law marks them. -/
import Derived.Test.YtiigfhigmdjooaaRlt
namespace Go.Proofs.Ytiigfhigmdjooaa.rls
open Go.RowKit Go.Deep Go.Proofs.Ytiigfhigmdjooaa.base
open Go.Proofs.Ytiigfhigmdjooaa.ints (ret_int infoInt infoInts)
open Go.Proofs.Ytiigfhigmdjooaa.rws (total before)
open Go.Proofs.Ytiigfhigmdjooaa.rule (RV OR)

def one (r : R3) : Int := (r.f.length : Int) + (before r.k r.k.length : Int) + (before r.s r.s.length : Int)
def cnt : List R3 → Int
  | [] => 0
  | r :: rs => one r + cnt rs
theorem cnt_app : ∀ (as' bs : List R3), cnt (as' ++ bs) = cnt as' + cnt bs
  | [], bs => by simp [cnt]
  | a :: as', bs => by
    have := cnt_app as' bs
    show one a + cnt (as' ++ bs) = one a + cnt as' + cnt bs
    omega
theorem cnt_pos : ∀ rs : List R3, 0 ≤ cnt rs
  | [] => by simp [cnt]
  | r :: rs => by
    have := cnt_pos rs
    show 0 ≤ one r + cnt rs
    unfold one
    omega
theorem cnt_take (rs : List R3) (i : Nat) : cnt (rs.take i) ≤ cnt rs := by
  have h := cnt_app (rs.take i) (rs.drop i)
  rw [List.take_append_drop] at h
  have := cnt_pos (rs.drop i)
  omega
theorem cnt_next {rs : List R3} {i : Nat} (hi : i < rs.length) : cnt (rs.take (i + 1)) = cnt (rs.take i) + one rs[i] := by
  rw [← List.take_concat_get hi, List.concat_eq_append, cnt_app]
  simp [cnt]
theorem Rowed.up {w : World} {g n : Nat} {rs : List R3} {k : Nat} {q : Nat → Value} {lo : Nat → Nat} (h : Rowed w g n rs k q lo) {i : Nat} : ∀ j, i ≤ j → j ≤ k → lo i ≤ lo j
  | 0, h1, _ => by obtain rfl : i = 0 := by omega
                   exact Nat.le_refl _
  | j + 1, h1, h2 => by
    rcases Nat.lt_or_ge j i with e | e
    · obtain rfl : i = j + 1 := by omega
      exact Nat.le_refl _
    · exact Nat.le_trans (h.up j e (by omega)) (h.asc j (by omega))
theorem OwnRls.wrote {S : Addr → Prop} {w w' : World} {B T : Nat} {v : Value} {rs : List R3} (h : OwnRls w B T v rs) (hw : Wrote S w w') (hs : ∀ p, S p → p.block < B ∨ T ≤ p.block) : OwnRls w' B T v rs := by
  obtain ⟨⟨g, q, lo, rfl, hr, h1, h2⟩, hm⟩ := h
  have hh := hr.head
  have hg : g < T := Nat.lt_of_lt_of_le hh (Nat.le_trans (hr.lo_le _ (Nat.le_refl _)) h2)
  refine ⟨⟨g, q, lo, rfl, ⟨hr.row.of_block (hw.block g (fun p hp e => by have := hs p hp; omega)), hr.head, hr.asc, by rw [hw.size]; exact hr.top, fun i hi hk => ?_⟩, h1, h2⟩, hm⟩
  have a1 := hr.lo_le i (by omega)
  have a2 := hr.up (i := i + 1) rs.length (by omega) (Nat.le_refl _)
  exact (hr.each i hi hk).wrote hw (fun p hp => by have := hs p hp; omega)
/-- the first i are marked -/
structure Mk (w wr : World) (g : Nat) (rs : List R3) (q : Nat → Value) (lo : Nat → Nat) (i : Nat) : Prop where
  wrote : Wrote (fun p => lo 0 ≤ p.block ∧ p.block < lo rs.length) w wr
  row : wr.rowIs g 88 (rs.length * 3) q
  each : ∀ j (hj : j < rs.length), i ≤ j → OR wr (lo j) (lo (j + 1)) (q (j * 3)) rs[j].f (q (j * 3 + 1)) rs[j].k (q (j * 3 + 2)) rs[j].s


set_option maxRecDepth 100000 in
set_option maxHeartbeats 4000000 in
theorem mark_any (v : Value) (rs : List R3) (k0 : Int) (B T : Nat) (w : World) (h : OwnRls w B T v rs) (hn : ∀ k (hk : k < rs.length), rs[k].f.length ≤ 1048576 ∧ total rs[k].k ≤ 1048576 ∧ total rs[k].s ≤ 1048576) (h0 : 0 ≤ k0) (h1 : k0 ≤ 4194304) (hc : cnt rs ≤ 4194304) :
    Calls Try.prog 24 #[v, .int .i64 k0] w fun e w' => e = .returned (.int .i64 (k0 + cnt rs)) ∧ ∃ S, Wrote S w w' ∧ Inside S B T := by
  obtain ⟨⟨g, q, lo, rfl, hr, hB, hT⟩, hm⟩ := h
  have HT := Lib.hid hn
  have HR := Lib.hid hr
  have HBT := Lib.hid (And.intro hB hT)
  have HK : Hid (∀ i, 0 ≤ k0 + cnt (rs.take i) ∧ k0 + cnt (rs.take i) ≤ 8388608) := Lib.hid (fun i => by have := cnt_take rs i; have := cnt_pos (rs.take i); omega)
  have hm64 : (rs.length : Int) ≤ 9223372036854775807 := by unfold maxLen at hm; omega
  have M0 : Hid (Mk w w g rs q lo 0) := Lib.hid ⟨Wrote.refl _ _, hr.row, fun j hj _ => hr.each j hj hj⟩
  have HQ : Hid (k0 = k0 + cnt (rs.take 0)) := Lib.hid (by simp [cnt])
  clear hn hr hB hT hm h0 h1 hc
  go_enter Try.func24, Try.ntmps24
  go_wp2_with fail
  go_loopw [1, 5] (fun kv iv wr => ∃ (i : Nat) (kk : Int), i ≤ rs.length ∧ iv = .int .i64 i ∧ kv = .int .i64 kk ∧ Hid (kk = k0 + cnt (rs.take i)) ∧ Hid (Mk w wr g rs q lo i)) (fun _ iv _ => rs.length - (intOf iv).toNat)
  case atStart => exact ⟨0, k0, Nat.zero_le _, rfl, rfl, HQ, M0⟩
  case round =>
    clear HQ M0
    obtain ⟨i, kk, hi, rfl, rfl, hkk, hM⟩ := hrel
    obtain ⟨wo, rfl⟩ : ∃ wo : World, wo = wr := ⟨_, rfl⟩
    by_cases hlt : i < rs.length
    · have hiz : (i : Int) < (rs.length : Int) := by omega
      obtain ⟨B1, T1, B2, T2, B3, T3, o1, o2, o3, m0, m1, m2, m3⟩ := hM.out.each i hlt (Nat.le_refl _)
      have c0 := hM.out.row.cell (i := i * 3) (by omega)
      have c1 := hM.out.row.cell (i := i * 3 + 1) (by omega)
      have c2 := hM.out.row.cell (i := i * 3 + 2) (by omega)
      obtain ⟨q0, hq0⟩ : ∃ x, q (i * 3) = x := ⟨_, rfl⟩
      obtain ⟨q1, hq1⟩ : ∃ x, q (i * 3 + 1) = x := ⟨_, rfl⟩
      obtain ⟨q2, hq2⟩ : ∃ x, q (i * 3 + 2) = x := ⟨_, rfl⟩
      rw [hq0] at c0 o1
      rw [hq1] at c1 o2
      rw [hq2] at c2 o3
      obtain ⟨a0, a1, a2, rfl⟩ := o1.ints.shape
      obtain ⟨a3, a4, a5, rfl⟩ := o2.rows.shape
      obtain ⟨a6, a7, a8, rfl⟩ := o3.rows.shape
      have hk0 := HK.out i
      have hk1 := HK.out (i + 1)
      have hnx := cnt_next hlt
      have hkv := hkk.out
      have hp1 : 0 ≤ (rs[i].f.length : Int) := by omega
      have hone : one rs[i] = (rs[i].f.length : Int) + (before rs[i].k rs[i].k.length : Int) + (before rs[i].s rs[i].s.length : Int) := rfl
      have hlo1 : g < lo i := Nat.lt_of_lt_of_le HR.out.head (HR.out.lo_le i (by omega))
      have hlo0 := HR.out.lo_le i (by omega)
      have hlon := HR.out.up (i := i + 1) rs.length (by omega) (Nat.le_refl _)
      have HA1 := Lib.hid (ints.mark_own _ rs[i].f kk B1 T1 wo o1 (HT.out i hlt).1 (by omega) (by omega))
      have HA2 := Lib.hid (fun (W : World) (S : Addr → Prop) (hw : Wrote S wo W) (hs : Inside S B1 T1) => rws.mark_any _ rs[i].k (kk + rs[i].f.length) B2 T2 W (o2.wrote hw (fun p hp => by have := hs p hp; omega)) (HT.out i hlt).2.1 (by omega) (by omega))
      have HA3 := Lib.hid (fun (W W2 : World) (S S2 : Addr → Prop) (hw : Wrote S wo W) (hs : Inside S B1 T1) (hw2 : Wrote S2 W W2) (hs2 : Inside S2 B2 T2) => rws.mark_any _ rs[i].s (kk + rs[i].f.length + before rs[i].k rs[i].k.length) B3 T3 W2 ((o3.wrote hw (fun p hp => by have := hs p hp; omega)).wrote hw2 (fun p hp => by have := hs2 p hp; omega)) (HT.out i hlt).2.2 (by omega) (by omega))
      have HNX : Hid (kk + rs[i].f.length + before rs[i].k rs[i].k.length + before rs[i].s rs[i].s.length = k0 + cnt (rs.take (i + 1))) := Lib.hid (by omega)
      have HMM := Lib.hid (And.intro m0 (And.intro hlo1 (And.intro hlo0 hlon)))
      have HC := Lib.hid (And.intro c1 c2)
      obtain ⟨L1, hL1⟩ : ∃ L1 : Int, kk + rs[i].f.length = L1 := ⟨_, rfl⟩
      obtain ⟨L2, hL2⟩ : ∃ L2 : Int, L1 + before rs[i].k rs[i].k.length = L2 := ⟨_, rfl⟩
      obtain ⟨L3, hL3⟩ : ∃ L3 : Int, L2 + before rs[i].s rs[i].s.length = L3 := ⟨_, rfl⟩
      rw [hL1] at HA1 HA2 HA3 HNX
      rw [hL2] at HA2 HA3 HNX
      rw [hL3] at HA3 HNX
      clear o1 o2 o3 m0 m1 m2 m3 hq0 hq1 hq2 hk0 hk1 hnx hkv hp1 hone hlo1 hlo0 hlon hL1 hL2 hL3 c1 c2
      go_wp2_with fail
      refine HA1.out.mono ?_
      rintro e w1 ⟨rfl, _, S1, hw1, hs1⟩
      have c1 := (hw1.cell ⟨g, i * 3 + 1, none⟩ (fun hp => by have h1 := hs1 _ hp; have h2 := HMM.out; simp only at h1; omega)).trans HC.out.1
      have X1 := Lib.hid (And.intro hw1 hs1)
      clear hw1 hs1 c0
      go_wp2_with fail
      refine (HA2.out w1 S1 X1.out.1 X1.out.2).mono ?_
      rintro e w2 ⟨rfl, _, S2, hw2, hs2⟩
      have c2' := (X1.out.1.cell ⟨g, i * 3 + 2, none⟩ (fun hp => by have h1 := X1.out.2 _ hp; have h2 := HMM.out; simp only at h1; omega)).trans HC.out.2
      have c2 := (hw2.cell ⟨g, i * 3 + 2, none⟩ (fun hp => by have h1 := hs2 _ hp; have h2 := HMM.out; simp only at h1; omega)).trans c2'
      have X2 := Lib.hid (And.intro hw2 hs2)
      clear hw2 hs2 c1 c2'
      go_wp2_with fail
      refine (HA3.out w1 w2 S1 S2 X1.out.1 X1.out.2 X2.out.1 X2.out.2).mono ?_
      rintro e w3 ⟨rfl, _, S3, hw3, hs3⟩
      have hh := HMM.out
      have s1 := X1.out.2
      have s2 := X2.out.2
      have M3 : Hid (Mk w w3 g rs q lo (i + 1)) := Lib.hid (by
        refine ⟨((hM.out.wrote.trans (X1.out.1.mono (fun p hp => ?_))).trans (X2.out.1.mono (fun p hp => ?_))).trans (hw3.mono (fun p hp => ?_)), ?_, fun j hj hij => ?_⟩
        · have := s1 p hp; show _ ∧ _; omega
        · have := s2 p hp; show _ ∧ _; omega
        · have := hs3 p hp; show _ ∧ _; omega
        · exact ((hM.out.row.of_block (X1.out.1.block g (fun p hp e => by have := s1 p hp; omega))).of_block (X2.out.1.block g (fun p hp e => by have := s2 p hp; omega))).of_block (hw3.block g (fun p hp e => by have := hs3 p hp; omega))
        · have hj1 := HR.out.up (i := i + 1) j (by omega) (by omega)
          exact (((hM.out.each j hj (by omega)).wrote X1.out.1 (fun p hp => by have := s1 p hp; omega)).wrote X2.out.1 (fun p hp => by have := s2 p hp; omega)).wrote hw3 (fun p hp => by have := hs3 p hp; omega))
      clear hw3 hs3 hh s1 s2 c2
      go_wp2_with fail
      go_roundw
      case rel => exact ⟨i + 1, _, by omega, by go_num, rfl, HNX, M3⟩
      case measure => simp [intOf]; omega
    · have hiz : ¬ (i : Int) < (rs.length : Int) := by omega
      obtain rfl : i = rs.length := by omega
      have HE : Hid (k0 + cnt rs = kk) := Lib.hid (by rw [hkk.out, List.take_of_length_le (Nat.le_refl _)])
      go_wp2_with fail
      go_ret
      refine ⟨ret_int HE.out.symm, _, hM.out.wrote, fun p hp => ?_⟩
      have hp' : lo 0 ≤ p.block ∧ p.block < lo rs.length := hp
      have := HBT.out
      have := HR.out.head
      omega


end Go.Proofs.Ytiigfhigmdjooaa.rls
