/- The score of the Game of the questions that tell a bit. -/
import Derived.Test.YtimfnhejiiagmaaTam
namespace Go.Proofs.Ytimfnhejiiagmaa.tan
open Go.RowKit Go.Deep Go.Proofs.Ytimfnhejiiagmaa.base
open Go.Proofs.Ytimfnhejiiagmaa.gwon (won won_bd wt wt_bd)
open Go.Proofs.Ytimfnhejiiagmaa.gval (okGame)
open Go.Proofs.Ytimfnhejiiagmaa.plays (bit at_ get_at len_at)
open Go.Proofs.Ytimfnhejiiagmaa.worth (cum cum_congr)
open Go.Proofs.Ytimfnhejiiagmaa.row (nn)
open Go.Proofs.Ytimfnhejiiagmaa.bvm (mx mx_nn mx_ge mx_in mx_le mx_eq mx_congr)
open Go.Proofs.Ytimfnhejiiagmaa.tam
open Go.Proofs.Ytimfnhejiiagmaa.gask (wts len_wts src src_at N)

/-- the questions below n that tell d -/
def Q (T : Nat → Int) (d : Int) (n : Nat) : List Nat := (List.range n).filter fun x => decide (T x = d)
theorem Q_yes {T : Nat → Int} {d : Int} {n : Nat} (h : T n = d) : Q T d (n + 1) = Q T d n ++ [n] := by unfold Q; rw [List.range_succ, List.filter_append]; simp [h]
theorem Q_no {T : Nat → Int} {d : Int} {n : Nat} (h : ¬ T n = d) : Q T d (n + 1) = Q T d n := by unfold Q; rw [List.range_succ, List.filter_append]; simp [h]
theorem Q_len (T : Nat → Int) (d : Int) (n : Nat) : (Q T d n).length ≤ n := by unfold Q; exact Nat.le_trans (List.length_filter_le _ _) (by simp)
theorem Q_mem {T : Nat → Int} {d : Int} {n x : Nat} : x ∈ Q T d n ↔ x < n ∧ T x = d := by simp [Q]
theorem Q_get {T : Nat → Int} {d : Int} {n i : Nat} (h : i < (Q T d n).length) : (Q T d n).getD i 0 < n ∧ T ((Q T d n).getD i 0) = d := by
  have : (Q T d n).getD i 0 ∈ Q T d n := by rw [List.getD_eq_getElem?_getD, List.getElem?_eq_getElem h]; exact List.getElem_mem h
  exact Q_mem.1 this
theorem Q_pos {T : Nat → Int} {d : Int} {x : Nat} (hx : T x = d) : ∀ n, x < n → (Q T d x).length < (Q T d n).length ∧ (Q T d n).getD (Q T d x).length 0 = x
  | 0, h => absurd h (Nat.not_lt_zero _)
  | n + 1, h => by
    by_cases e : x = n
    · subst e
      rw [Q_yes hx]
      simp
    · obtain ⟨h1, h2⟩ := Q_pos hx n (by omega)
      by_cases hn : T n = d
      · rw [Q_yes hn]
        refine ⟨by simp; omega, ?_⟩
        rw [List.getD_eq_getElem?_getD, List.getElem?_append_left h1, ← List.getD_eq_getElem?_getD]
        exact h2
      · rw [Q_no hn]; exact ⟨h1, h2⟩
theorem sum_Q (T : Nat → Int) (d : Int) (g : Nat → Nat → Int) : ∀ n, cum (fun i => g i ((Q T d n).getD i 0)) (Q T d n).length = cum (fun x => if T x = d then g (Q T d x).length x else 0) n
  | 0 => rfl
  | n + 1 => by
    have ih := sum_Q T d g n
    show _ = cum (fun x => if T x = d then g (Q T d x).length x else 0) n + (if T n = d then g (Q T d n).length n else 0)
    rw [← ih]
    by_cases h : T n = d
    · rw [if_pos h, Q_yes h, List.length_append]
      show cum (fun i => g i ((Q T d n ++ [n]).getD i 0)) (Q T d n).length + g (Q T d n).length ((Q T d n ++ [n]).getD (Q T d n).length 0) = _
      have e1 : (Q T d n ++ [n]).getD (Q T d n).length 0 = n := by simp
      rw [e1]
      congr 1
      refine cum_congr _ (fun i hi => ?_)
      rw [List.getD_eq_getElem?_getD, List.getElem?_append_left hi, ← List.getD_eq_getElem?_getD]
    · rw [if_neg h, Q_no h, Int.add_zero]
/-- the lists of questions asked -/
def fs (T : Nat → Int) (d : Int) (n : Nat) : List Int := (Q T d n).map fun (x : Nat) => ((x : Nat) : Int)
def ys (n : Nat) : List Int := (List.range n).map fun (y : Nat) => ((y : Nat) : Int)
theorem len_fs (T : Nat → Int) (d : Int) (n : Nat) : (fs T d n).length = (Q T d n).length := by simp [fs]
theorem len_ys (n : Nat) : (ys n).length = n := by simp [ys]
theorem fs_get (T : Nat → Int) (d : Int) (n i : Nat) : (fs T d n).getD i 0 = (((Q T d n).getD i 0 : Nat) : Int) := by
  unfold fs
  by_cases h : i < (Q T d n).length
  · simp [List.getD, h]
  · simp [List.getD, h]
theorem ys_get {n y : Nat} (h : y < n) : (ys n).getD y 0 = ((y : Nat) : Int) := by simp [ys, List.getD, h]
theorem fs_yes {T : Nat → Int} {d : Int} {n : Nat} (h : T n = d) : fs T d (n + 1) = fs T d n ++ [((n : Nat) : Int)] := by unfold fs; rw [Q_yes h]; simp
theorem fs_no {T : Nat → Int} {d : Int} {n : Nat} (h : ¬ T n = d) : fs T d (n + 1) = fs T d n := by unfold fs; rw [Q_no h]
theorem ys_succ (n : Nat) : ys (n + 1) = ys n ++ [((n : Nat) : Int)] := by simp [ys, List.range_succ]

theorem nn_rows {F : Nat → Nat → Int} {n r k : Nat} (hr : r < n) (hk : k < 4) : nn (make.rowsOf F n) r k = F r k := by
  unfold nn make.rowsOf
  have : ((List.range n).map (make.quad F)).getD r [] = make.quad F r := by simp [List.getD, hr]
  rw [this]
  match k, hk with
  | 0, _ => rfl
  | 1, _ => rfl
  | 2, _ => rfl
  | 3, _ => rfl
theorem wts_get {gy : Int} {a b ws : List Int} {k j : Nat} (h : j < (wts gy a b ws k).length) : (wts gy a b ws k)[j] = wt ws (src gy a b j) := by simp [wts]
theorem rows_get {F : Nat → Nat → Int} {n j : Nat} (h : j < (make.rowsOf F n).length) : (make.rowsOf F n)[j] = make.quad F j := by simp [make.rowsOf]
section
variable (X Y : Nat) (ws : List Int) (xss : List (List Int)) (T : Nat → Int) (d : Int)
def aw : List Int := wts (Y : Int) (fs T d X) (ys Y) ws ((fs T d X).length * (ys Y).length)
def ar : List (List Int) := make.rowsOf (N (Y : Int) (fs T d X) (ys Y) xss) ((fs T d X).length * (ys Y).length)
theorem src_is {i y : Nat} (hy : y < Y) : src (Y : Int) (fs T d X) (ys Y) (i * Y + y) = (Q T d X).getD i 0 * Y + y := by
  have := src_at (Y : Int) (fs T d X) (ys Y) i y (by rw [len_ys]; exact hy)
  rw [len_ys] at this
  rw [this, fs_get, ys_get hy]
  exact gscore.at_cast _ _ _
theorem wt_asked {t : Nat} (h : t < (Q T d X).length * Y) : wt (aw X Y ws T d) t = wt ws (src (Y : Int) (fs T d X) (ys Y) t) := by
  unfold aw wts
  rw [len_fs, len_ys]
  simp [wt, List.getD, h]
theorem won_asked {i y : Nat} (hi : i < (Q T d X).length) (hy : y < Y) {a b : Int} (ha : a = 0 ∨ a = 1) (hb : b = 0 ∨ b = 1) : won (aw X Y ws T d) (ar X Y xss T d) (i * Y + y) a b = won ws xss ((Q T d X).getD i 0 * Y + y) a b := by
  have ht : i * Y + y < (Q T d X).length * Y := by
    have g1 : i * Y + y < (i + 1) * Y := by rw [Nat.add_mul]; omega
    exact Nat.lt_of_lt_of_le g1 (Nat.mul_le_mul_right _ (by omega))
  unfold won
  rw [wt_asked X Y ws T d ht, src_is X Y T d hy]
  unfold ar
  rw [len_fs, len_ys, nn_rows ht (by omega)]
  unfold N
  rw [src_is X Y T d hy]
theorem ok_asked (hok : okGame X Y ws xss) {x y : Nat} (hx : x < X) (hT : T x = d) (hy : y < Y) (hw : 0 < wt ws (x * Y + y)) : okGame ((fs T d X).length : Nat) ((ys Y).length : Nat) (aw X Y ws T d) (ar X Y xss T d) := by
  have hX : X ≤ 3 := by have := hok.1.1.2; omega
  have hY : 1 ≤ Y ∧ Y ≤ 3 := by have := hok.1.2; omega
  obtain ⟨q1, q2⟩ := Q_pos hT X hx
  have hq := Q_len T d X
  have hl1 : (aw X Y ws T d).length = (fs T d X).length * (ys Y).length := len_wts _ _ _ _ _
  have hl2 : (ar X Y xss T d).length = (fs T d X).length * (ys Y).length := make.len_rowsOf _ _
  have hall : ∀ k (h : k < (aw X Y ws T d).length), 0 ≤ (aw X Y ws T d)[k] ∧ (aw X Y ws T d)[k] ≤ 99 := fun k h => by
    have : (aw X Y ws T d)[k] = wt ws (src (Y : Int) (fs T d X) (ys Y) k) := wts_get h
    rw [this]; exact wt_bd hok _
  refine ⟨⟨?_, ?_⟩, ?_, ?_, hall, ?_, ?_⟩
  · rw [len_fs]; omega
  · rw [len_ys]; omega
  · rw [hl1]; simp
  · rw [hl2]; simp
  · intro k h
    have : (ar X Y xss T d)[k] = make.quad (N (Y : Int) (fs T d X) (ys Y) xss) k := rows_get h
    rw [this]
    refine ⟨rfl, fun j hj => ?_⟩
    have hb := fun c => gwon.nn_bd hok (src (Y : Int) (fs T d X) (ys Y) k) c
    match j, hj with
    | 0, _ => exact hb 0
    | 1, _ => exact hb 1
    | 2, _ => exact hb 2
    | 3, _ => exact hb 3
  · have ht : (Q T d x).length * Y + y < (Q T d X).length * Y := by
      have g1 : (Q T d x).length * Y + y < ((Q T d x).length + 1) * Y := by rw [Nat.add_mul]; omega
      exact Nat.lt_of_lt_of_le g1 (Nat.mul_le_mul_right _ (by omega))
    have hpos : 0 < wt (aw X Y ws T d) ((Q T d x).length * Y + y) := by rw [wt_asked X Y ws T d ht, src_is X Y T d hy, q2]; exact hw
    have hlt : (Q T d x).length * Y + y < (aw X Y ws T d).length := by rw [hl1, len_fs, len_ys]; exact ht
    have hm := (gval.sum_nonneg (aw X Y ws T d) (fun z hz => by obtain ⟨k, hk, e⟩ := List.mem_iff_getElem.1 hz; rw [← e]; exact (hall k hk).1)).2 _ (List.getElem_mem hlt)
    rw [gwon.wt_get hlt] at hm
    omega

theorem col_is (k : Nat) {y : Nat} (hy : y < Y) {b : Int} (hb : b = 0 ∨ b = 1) : gbm.col (Q T d X).length Y (aw X Y ws T d) (ar X Y xss T d) (at_ (Q T d X).length k) y b = cum (fun i => won ws xss ((Q T d X).getD i 0 * Y + y) (bit (Q T d X).length k i) b) (Q T d X).length := by
  unfold gbm.col
  refine cum_congr _ (fun i hi => ?_)
  rw [plays.get_at _ _ _ hi]
  exact won_asked X Y ws xss T d hi hy (gbm.bit_01 _ _ _) hb
theorem V_is (k : Nat) (A : Nat → Int) (h : ∀ y b, y < Y → (b = 0 ∨ b = 1) → cum (fun i => won ws xss ((Q T d X).getD i 0 * Y + y) (bit (Q T d X).length k i) b) (Q T d X).length = sc Y ws xss A T d y b X) :
    gbm.V (Q T d X).length Y (aw X Y ws T d) (ar X Y xss T d) k = fullD X Y ws xss A T d Y := by
  unfold gbm.V
  rw [gbm.score_stp _ _ _ _ (len_at _ _)]
  unfold fullD
  refine cum_congr Y (fun y hy => ?_)
  have e0 := (col_is X Y ws xss T d k hy (.inl rfl)).trans (h y 0 hy (.inl rfl))
  have e1 := (col_is X Y ws xss T d k hy (.inr rfl)).trans (h y 1 hy (.inr rfl))
  unfold gbm.rep top m2
  by_cases hl : gbm.col (Q T d X).length Y (aw X Y ws T d) (ar X Y xss T d) (at_ (Q T d X).length k) y 0 < gbm.col (Q T d X).length Y (aw X Y ws T d) (ar X Y xss T d) (at_ (Q T d X).length k) y 1
  · rw [if_pos hl, e1]; rw [e0, e1] at hl; rw [if_pos hl]
  · rw [if_neg hl, e0]; rw [e0, e1] at hl; rw [if_neg hl]
/-- the score of the best play of the Game that is asked -/
theorem score_is (hok : okGame X Y ws xss) : (gbp.res ((fs T d X).length : Nat) ((ys Y).length : Nat) (aw X Y ws T d) (ar X Y xss T d)).2.1 = S X Y ws xss T d := by
  have hX : X ≤ 3 := by have := hok.1.1.2; omega
  have hq := Q_len T d X
  by_cases h : okGame ((fs T d X).length : Nat) ((ys Y).length : Nat) (aw X Y ws T d) (ar X Y xss T d)
  · rw [gbp.res_yes h]
    simp only [Int.toNat_natCast]
    rw [len_fs, len_ys]
    show gbm.V (Q T d X).length Y (aw X Y ws T d) (ar X Y xss T d) (gbm.am (gbm.V (Q T d X).length Y (aw X Y ws T d) (ar X Y xss T d)) (2 ^ (Q T d X).length - 1)) = _
    have hp : 0 < 2 ^ (Q T d X).length := Nat.pow_pos (by omega)
    have b1 : ∀ p, p < 2 ^ X → ∃ k, k < 2 ^ (Q T d X).length ∧ fullD X Y ws xss (bit X p) T d Y = gbm.V (Q T d X).length Y (aw X Y ws T d) (ar X Y xss T d) k := fun p hp => by
      obtain ⟨k, hk, hb⟩ := gbm.find_place (Y := (Q T d X).length) (by omega) (fun i => bit X p ((Q T d X).getD i 0)) (fun i => gbm.bit_01 _ _ _)
      refine ⟨k, hk, (V_is X Y ws xss T d k (bit X p) (fun y b _ _ => ?_)).symm⟩
      have := sum_Q T d (fun _ x => won ws xss (x * Y + y) (bit X p x) b) X
      unfold sc
      rw [← this]
      exact cum_congr _ (fun i hi => by rw [hb i hi])
    have b2 : ∀ k, k < 2 ^ (Q T d X).length → ∃ p, p < 2 ^ X ∧ gbm.V (Q T d X).length Y (aw X Y ws T d) (ar X Y xss T d) k = fullD X Y ws xss (bit X p) T d Y := fun k hk => by
      obtain ⟨p, hp, hb⟩ := gbm.find_place (Y := X) hX (fun x => bit (Q T d X).length k (Q T d x).length) (fun x => gbm.bit_01 _ _ _)
      refine ⟨p, hp, V_is X Y ws xss T d k (bit X p) (fun y b _ _ => ?_)⟩
      have := sum_Q T d (fun i x => won ws xss (x * Y + y) (bit (Q T d X).length k i) b) X
      rw [this]
      unfold sc
      exact cum_congr _ (fun x hx => by rw [hb x hx])
    have e : mx (gbm.V (Q T d X).length Y (aw X Y ws T d) (ar X Y xss T d)) (2 ^ (Q T d X).length) = S X Y ws xss T d := mx_eq b2 b1
    rw [← e]
    have hV : ∀ k, k < 2 ^ (Q T d X).length → 0 ≤ gbm.V (Q T d X).length Y (aw X Y ws T d) (ar X Y xss T d) k := fun k hk => by
      obtain ⟨p, _, e⟩ := b2 k hk
      rw [e]; exact (fullD_bd X Y ws xss hok _ _ _ _ (by have := hok.1.2.2; omega)).1
    have hle := gbm.am_le (gbm.V (Q T d X).length Y (aw X Y ws T d) (ar X Y xss T d)) (2 ^ (Q T d X).length - 1)
    refine Int.le_antisymm (mx_ge _ _ _ (by omega)) (mx_le _ (hV _ (by omega)) _ (fun t ht => ?_))
    exact gbm.am_max _ (2 ^ (Q T d X).length - 1) t (by omega)
  · rw [gbp.res_no h]
    symm
    refine Int.le_antisymm (mx_le _ (Int.le_refl _) _ (fun p _ => ?_)) (mx_nn _ _)
    have hz : ∀ y b, y < Y → sc Y ws xss (bit X p) T d y b X = 0 := fun y b hy => by
      unfold sc
      have : cum (fun x => if T x = d then won ws xss (x * Y + y) (bit X p x) b else 0) X = cum (fun _ => 0) X := cum_congr X (fun x hx => by
        by_cases e : T x = d
        · rw [if_pos e]
          have hw : ¬ 0 < wt ws (x * Y + y) := fun hw => h (ok_asked X Y ws xss T d hok hx e hy hw)
          have h0 := (wt_bd hok (x * Y + y)).1
          unfold won
          rw [show wt ws (x * Y + y) = 0 by omega, Int.zero_mul]
        · rw [if_neg e])
      rw [this, gbm.cum_zero]
    have : fullD X Y ws xss (bit X p) T d Y = cum (fun _ => 0) Y := by
      unfold fullD
      exact cum_congr Y (fun y hy => by unfold top; rw [hz y 0 hy, hz y 1 hy]; rfl)
    show fullD X Y ws xss (bit X p) T d Y ≤ 0
    rw [this, gbm.cum_zero]
    exact Int.le_refl _
end
end Go.Proofs.Ytimfnhejiiagmaa.tan
