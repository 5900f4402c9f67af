/- DrawJoinStrings: up to three texts and maybe a long one, and a mark. -/
import Derived.Test.YtfcoodhilpbehaaBase
import Derived.Test.YtfcoodhilpbehaaChecked
import Derived.Test.YtfcoodhilpbehaaDrs
import Derived.Deep.RegionHeld3
import Derived.OwnWalk
import Derived.Deep.OwnRows
import Derived.Laws.IdiomStrings
namespace Go.Proofs.Ytfcoodhilpbehaa.drj
open Go.RowKit Go.Deep Go.Proofs.Ytfcoodhilpbehaa.base
open Go.Proofs.Ytfcoodhilpbehaa.sta Go.Proofs.Ytfcoodhilpbehaa.cur Go.Proofs.Ytfcoodhilpbehaa.drs

theorem one_at (w : World) (v : Value) (t : TypeId) : ∀ (j : Nat) (u : Value), [v][j]? = some u → (w.alloc (.cells #[v] t)).cell? ((⟨w.heap.size, 0, none⟩ : Addr).add j) = some u := by
  intro j u hj
  match j, hj with
  | 0, hj =>
    simp at hj; subst hj
    simp [Addr.add]
theorem strs_of_owns {w : World} {B e n : Nat} {v : Value} {ss : List ByteArray} (h : w.ownsRow B e 1 v n (ss.map Value.string)) : Strs w v ss := by
  obtain ⟨h1, h2⟩ := h
  rw [Nat.mul_one] at h1
  rcases h2 with ⟨rfl, rfl⟩ | ⟨g, cap, cur, rfl, hg, hh, hn, hm, hs, ht⟩
  · have : ss = [] := by
      have : (ss.map Value.string) = [] := List.eq_nil_of_length_eq_zero h1
      simpa using this
    subst this; exact Sl.nil w
  · refine ⟨some ⟨g, 0, none⟩, cap, by rw [h1], by omega, hm, fun k u hu => ⟨g, 0, rfl, ?_⟩⟩
    rw [Nat.zero_add, Joins.cell_of_block hh]
    rw [← ht, List.getElem?_take] at hu
    split at hu
    · simpa using hu
    · cases hu
theorem owns_kept {p : Nat} {w w' : World} {e z n : Nat} {v : Value} {xs : List Value} (h : w.ownsRow (p + 1) e z v n xs) (hb : Kept p w w') : w'.ownsRow (p + 1) e z v n xs :=
  h.kept (row := some p) ⟨hb.1.os, hb.1.tape, hb.1.output, hb.1.size, fun k hk hne => hb.2 k (fun e => hne (by rw [e])) hk⟩ (.inr fun e => by have := h.lt p e; omega)
theorem hand_grown {w w' : World} {p : Nat} {A : Option Addr} {n cp M : Nat} {row : Option Nat} (h : Hand w p A n cp M) (hg : w.grownBy w' row) (hr : ∀ g, row = some g → p < g) : Hand w' p A n cp M := by
  have hbk : ∀ k, k ≤ p → w'.heap[k]? = w.heap[k]? := fun k hk => hg.block k (by have := h.lt; omega) (fun e => by have := hr k e.symm; omega)
  obtain ⟨a, sd, ha, hk⟩ := h.cur
  refine ⟨⟨a, sd, ha, (hbk p (Nat.le_refl _)).trans hk⟩, fun j hj => ?_⟩
  obtain ⟨b, o, x, hA, hx, hb, hc⟩ := h.bytes j hj
  refine ⟨b, o, x, hA, hx, hb, ?_⟩
  simp only [World.cell?, hbk b (by omega)]
  exact hc
theorem hand_up {w : World} {p : Nat} {A : Option Addr} {n cp M M' : Nat} (h : Hand w p A n cp M) (hM : M ≤ M') : Hand w p A n cp M' := by
  obtain ⟨a, sd, ha, hk⟩ := h.cur
  exact ⟨⟨a, sd, by omega, hk⟩, h.bytes⟩
theorem infoStr : (Try.prog.info? 9).map (fun i => (i.zero, i.size, i.bytes)) = some (some (.string ⟨#[]⟩), 1, 16) := by kernel_rfl
theorem infoByte : (Try.prog.info? 5).map (fun i => (i.zero, i.size, i.bytes)) = some (some (.int .u8 0), 1, 1) := by kernel_rfl
/-- the marks to draw from -/
def marks : List ByteArray := [⟨#[44]⟩, ⟨#[59]⟩, ⟨#[59]⟩, ⟨#[]⟩, ⟨#[97, 98]⟩]
theorem marks_size : ∀ s ∈ marks, s.size ≤ 16 := by decide
theorem snoc (ss : List ByteArray) (s : ByteArray) : ss.map Value.string ++ [.string s] = (ss ++ [s]).map Value.string := by simp
/-- n bytes of 0 as a text -/
theorem conv_made (w : World) (n : Nat) (hn : n ≤ 4100) : ∃ S : ByteArray, S.size ≤ 5000 ∧ (convert 22 9 (.slice (some ⟨w.heap.size, 0, none⟩) n n)).run Try.prog (w.alloc (.cells (madeCells #[.int .u8 0] n) 5)) = .ok (.string S) (w.alloc (.cells (madeCells #[.int .u8 0] n) 5)) := by
  refine ⟨⟨(List.replicate n 0).toArray⟩, by show (List.replicate n (0 : UInt8)).toArray.size ≤ 5000; simp; omega, ?_⟩
  have := run_convert_bytes_back (P := Try.prog) (w.alloc (.cells (madeCells #[.int .u8 0] n) 5)) 22 9 5 ⟨w.heap.size, 0, none⟩ n (List.replicate n 0) Try.underlying22 Try.underlying5 Try.underlying9 (fun j hj => by
    have hjn : j < n := by simpa using hj
    have := (World.rowIs_made w (.int .u8 0) n 5).cell hjn
    have e : (⟨w.heap.size, 0, none⟩ : Addr).add j = ⟨w.heap.size, j, none⟩ := by cases j <;> simp [Addr.add]
    rw [e, List.getElem_replicate]
    exact this)
  simpa using this

set_option maxHeartbeats 2000000 in
theorem join_draw (A : Option Addr) (n cp : Nat) (W : World) (h : Bytes W W.heap.size A n) :
    Calls Try.prog 7 #[.slice A n cp] W fun e W' => ∃ (v : Value) (ss : List ByteArray) (mark : ByteArray), ss.length ≤ 4 ∧ (∀ s ∈ ss, s.size ≤ 5000) ∧ mark.size ≤ 16 ∧ e = .returned (.tuple #[v, .string mark]) ∧ Strs W' v ss ∧ Below W.heap.size W W' := by
  obtain ⟨i0, hi, hz0, hz1, hz2⟩ := info_parts infoStr
  have H0 := Lib.hid ((hand_new (cp := cp) h 0).low (below_al (Below.refl _ _) (.cells #[] 9)))
  have O0 : Hid (((W.alloc (.cells #[.slice A n cp, .int .i64 0, .int .u64 0] 37)).alloc (.cells #[] 9)).ownsRow (W.heap.size + 1) 9 1 (.slice (some ⟨W.heap.size + 1, 0, none⟩) 0 0) 0 (([] : List ByteArray).map Value.string)) := Lib.hid (by
    have hs : (W.alloc (.cells #[.slice A n cp, .int .i64 0, .int .u64 0] 37)).heap.size = W.heap.size + 1 := by simp
    have := World.ownsRow_made (base := W.heap.size + 1) (e := 9) (size := 1) (W.alloc (.cells #[.slice A n cp, .int .i64 0, .int .u64 0] 37)) #[] 0 (by rw [hs]; exact Nat.le_refl _) (Nat.zero_le _) rfl
    rw [hs] at this
    exact this)
  have HA := Lib.hid (pick_any W.heap.size A n cp 0 4 _ H0.out (by omega) (by omega))
  have hB0 := Lib.hid (below_al (below_al (Below.refl W.heap.size W) (.cells #[.slice A n cp, .int .i64 0, .int .u64 0] 37)) (.cells #[] 9))
  clear h
  go_enter Try.func7, Try.ntmps7
  go_wp2_with fail
  refine HA.out.mono ?_
  rintro e W1 ⟨N, hN, rfl, hh, hk⟩
  have H1 := Lib.hid hh
  have O1 := Lib.hid (owns_kept O0.out hk)
  have B1 := Lib.hid (hB0.out.trans hk.1)
  clear hh hk O0 H0 HA hB0
  go_wp2_with fail
  go_loopw [5, 7] (fun v i wr => ∃ (k : Nat) (ss : List ByteArray), k ≤ N ∧ i = .int .i64 k ∧ ss.length = k ∧ (∀ s ∈ ss, s.size ≤ 5000) ∧ Hid (wr.ownsRow (W.heap.size + 1) 9 1 v k (ss.map Value.string)) ∧ Hid (Hand wr W.heap.size A n cp (2 + 2 * k)) ∧ Hid (Below W.heap.size W wr)) (fun _ i _ => N - (intOf i).toNat)
  case atStart => exact ⟨0, [], Nat.zero_le _, rfl, rfl, by simp, O1, H1, B1⟩
  case round =>
    obtain ⟨k, ss, hk, rfl, hl, hss, hO, hH, hB⟩ := hrel
    by_cases hlt : k < N
    · have hkz : (k : Int) < (N : Int) := by omega
      have HA := Lib.hid (any1_any W.heap.size A n cp (2 + 2 * k) _ hH.out (by omega))
      go_wp2_with fail
      refine HA.out.mono ?_
      rintro e w2 ⟨s, hs, rfl, hh, hk2⟩
      have H2 := Lib.hid hh
      have O2 := Lib.hid (owns_kept hO.out hk2)
      have B2 := Lib.hid (hB.out.trans hk2.1)
      have hsz := B2.out.size
      have hp := hh.lt
      clear hh hk2 hO hB hH HA
      go_wp2_with (at_builtin; refine wpList_append_own _ rfl (.tmp 19) (.tmp 22) 26 rfl (W.heap.size + 1) 9 i0 (.string ⟨#[]⟩) 1 16 Try.underlying26 hi hz0 hz1 hz2 rfl (by decide) _ _ _ rfl (O2.out.alloc _) ⟨w2.heap.size, 0, none⟩ 1 1 [.string s] rfl rfl ?c1 ?c2 ?c3 ?c4 ?c5 ?_)
      case c1 => exact one_at _ _ _
      case c2 => intro u hu; simp at hu; subst hu; rfl
      case c3 => unfold maxLen; omega
      case c4 => omega
      case c5 => simp; omega
      intro v' w3 hown' hgrow _
      have hlo := fun g hg => (O2.out.lt g hg).1
      have B3 := Lib.hid ((below_al B2.out _).grown hgrow (by simp; omega) (fun j hj => Nat.le_of_succ_le (hlo j hj)))
      have H3 := Lib.hid (hand_up (M' := 2 + 2 * (k + 1)) (hand_grown (H2.out.low (below_al (Below.refl _ _) _)) hgrow (fun g hg => hlo g hg)) (by omega))
      have O3 : Hid (w3.ownsRow (W.heap.size + 1) 9 1 v' (k + 1) ((ss ++ [s]).map Value.string)) := Lib.hid (by rw [← snoc]; exact hown')
      clear hown' hgrow O2 B2 H2
      go_wp2_with fail
      go_roundw
      case rel => exact ⟨k + 1, ss ++ [s], by omega, by go_num, by simp [hl], fun u hu => by
        simp at hu
        rcases hu with hu | rfl
        · exact hss u hu
        · omega, O3, H3, B3⟩
      case measure => simp [intOf]; omega
    · have hkz : ¬ (k : Int) < (N : Int) := by omega
      obtain rfl : k = N := by omega
      have HA := Lib.hid (one_any W.heap.size A n cp (2 + 2 * k) 20 _ hH.out (by omega) (by omega))
      go_wp2_with fail
      refine HA.out.mono ?_
      rintro e w2 ⟨r, rfl, hh, hk2⟩
      have H2 := Lib.hid hh
      have O2 := Lib.hid (owns_kept hO.out hk2)
      have B2 := Lib.hid (hB.out.trans hk2.1)
      have hsz := B2.out.size
      have hp := hh.lt
      clear hh hk2 hO hB hH HA
      cases r
      · have HO := Lib.hid (of_lit W.heap.size A n cp (2 + 2 * k + 2) marks w2 H2.out (by omega) (by decide))
        go_wp2_with fail
        refine HO.out.mono ?_
        rintro e w3 ⟨mark, hm, rfl, hh, hk3⟩
        have O3 := Lib.hid (owns_kept O2.out hk3)
        have B3 := Lib.hid (B2.out.trans hk3.1)
        have S3 := Lib.hid (marks_size mark hm)
        clear hh hk3 O2 B2 H2 HO hm
        go_wp2_with fail
        go_ret2
        exact ⟨_, ss, mark, by omega, hss, S3.out, rfl, strs_of_owns O3.out, B3.out⟩
      · have HP := Lib.hid (pick_any W.heap.size A n cp (2 + 2 * k + 2) 20 _ H2.out (by omega) (by omega))
        go_wp2_with fail
        refine HP.out.mono ?_
        rintro e w3 ⟨x, hx, rfl, hh, hk3⟩
        have H3 := Lib.hid hh
        have O3 := Lib.hid (owns_kept O2.out hk3)
        have B3 := Lib.hid (B2.out.trans hk3.1)
        have hsz3 := B3.out.size
        obtain ⟨Y, hY, hY2, gw⟩ : ∃ Y : Nat, Y ≤ 4100 ∧ 0 < Y ∧ IntKind.i64.wrap (3990 + (x : Int)) = (Y : Int) := ⟨3990 + x, by omega, by omega, by rw [IntWalk.i64_in _ (by omega)]; simp⟩
        have hmk := run_make_row' (P := Try.prog) 22 5 (.int .u8 0) 1 Try.underlying22 infoByte rfl .i64 .i64 Y (by omega) (by omega) w3
        obtain ⟨S, hS, hconv⟩ := conv_made w3 Y (by omega)
        have hB3' := below_al (Below.refl w3.heap.size w3) (.cells (madeCells #[.int .u8 0] Y) 5)
        have H3' := Lib.hid (H3.out.low hB3')
        have O3' := Lib.hid (O3.out.alloc (.cells (madeCells #[.int .u8 0] Y) 5))
        have B3' := Lib.hid (below_al B3.out (.cells (madeCells #[.int .u8 0] Y) 5))
        have hs4 : W.heap.size ≤ (w3.alloc (.cells (madeCells #[.int .u8 0] Y) 5)).heap.size := by simp; omega
        have hp3 : W.heap.size + 1 ≤ (w3.alloc (.cells (madeCells #[.int .u8 0] Y) 5)).heap.size := by have := H3.out.lt; simp; omega
        obtain ⟨w4, hw4⟩ : ∃ w4, w3.alloc (.cells (madeCells #[.int .u8 0] Y) 5) = w4 := ⟨_, rfl⟩
        rw [hw4] at hmk hconv H3' O3' B3' hs4 hp3
        clear hh hk3 O2 B2 H2 HP hB3' hw4 H3 O3 B3
        go_wp2_with (at_builtin; refine wpList_append_own _ rfl (.tmp 26) (.tmp 32) 26 rfl (W.heap.size + 1) 9 i0 (.string ⟨#[]⟩) 1 16 Try.underlying26 hi hz0 hz1 hz2 rfl (by decide) _ _ _ rfl (O3'.out.alloc _) ⟨w4.heap.size, 0, none⟩ 1 1 [.string S] rfl rfl ?c1 ?c2 ?c3 ?c4 ?c5 ?_)
        case c1 => exact one_at _ _ _
        case c2 => intro u hu; simp at hu; subst hu; rfl
        case c3 => unfold maxLen; omega
        case c4 => omega
        case c5 => simp; omega
        intro v' w5 hown' hgrow _
        have hlo := fun g hg => (O3'.out.lt g hg).1
        have B5 := Lib.hid ((below_al B3'.out _).grown hgrow (by simp; omega) (fun j hj => Nat.le_of_succ_le (hlo j hj)))
        have H5 := Lib.hid (hand_grown (H3'.out.low (below_al (Below.refl _ _) _)) hgrow (fun g hg => hlo g hg))
        have O5 : Hid (w5.ownsRow (W.heap.size + 1) 9 1 v' (k + 1) ((ss ++ [S]).map Value.string)) := Lib.hid (by rw [← snoc]; exact hown')
        clear hown' hgrow O3' B3' H3' hmk hconv
        have HO := Lib.hid (of_lit W.heap.size A n cp _ marks w5 H5.out (by omega) (by decide))
        go_wp2_with fail
        refine HO.out.mono ?_
        rintro e w6 ⟨mark, hm, rfl, hh, hk6⟩
        have O6 := Lib.hid (owns_kept O5.out hk6)
        have B6 := Lib.hid (B5.out.trans hk6.1)
        have S6 := Lib.hid (marks_size mark hm)
        clear hh hk6 O5 B5 H5 HO hm
        go_wp2_with fail
        go_ret2
        exact ⟨_, ss ++ [S], mark, by simp; omega, fun u hu => by
          simp at hu
          rcases hu with hu | rfl
          · exact hss u hu
          · exact hS, S6.out, rfl, strs_of_owns O6.out, B6.out⟩

end Go.Proofs.Ytfcoodhilpbehaa.drj
