/- Best plays and replies of a Game: the arithmetic. It speaks of no function of the program. -/
import Derived.Test.YtimfnhejiiagmaaGscore
import Derived.Test.YtimfnhejiiagmaaPlays
namespace Go.Proofs.Ytimfnhejiiagmaa.gbm
open Go.RowKit Go.Deep Go.Proofs.Ytimfnhejiiagmaa.base
open Go.Proofs.Ytimfnhejiiagmaa.worth (cum cum_congr)
open Go.Proofs.Ytimfnhejiiagmaa.gwon (won)
open Go.Proofs.Ytimfnhejiiagmaa.gscore (term score term_at)
open Go.Proofs.Ytimfnhejiiagmaa.plays (at_ bit len_at)

theorem cum_split (g : Nat → Int) (m n : Nat) : cum g (m + n) = cum g m + cum (fun t => g (m + t)) n := by
  induction n with
  | zero => simp [cum]
  | succ n ih =>
    have e : cum g (m + (n + 1)) = cum g (m + n) + g (m + n) := rfl
    have e2 : cum (fun t => g (m + t)) (n + 1) = cum (fun t => g (m + t)) n + g (m + n) := rfl
    rw [e, e2, ih]; omega
theorem cum_mul (g : Nat → Int) (X Y : Nat) : cum g (X * Y) = cum (fun a => cum (fun c => g (a * Y + c)) Y) X := by
  induction X with
  | zero => rw [Nat.zero_mul]; rfl
  | succ X ih =>
    rw [Nat.add_mul, Nat.one_mul, cum_split, ih]; rfl
theorem cum_add (g h : Nat → Int) (n : Nat) : cum (fun t => g t + h t) n = cum g n + cum h n := by
  induction n with
  | zero => rfl
  | succ n ih =>
    have e : cum (fun t => g t + h t) (n + 1) = cum (fun t => g t + h t) n + (g n + h n) := rfl
    have e1 : cum g (n + 1) = cum g n + g n := rfl
    have e2 : cum h (n + 1) = cum h n + h n := rfl
    rw [e, e1, e2, ih]; omega
theorem cum_zero (n : Nat) : cum (fun _ => 0) n = 0 := by
  induction n with
  | zero => rfl
  | succ n ih =>
    have e : cum (fun _ => (0 : Int)) (n + 1) = cum (fun _ => (0 : Int)) n + 0 := rfl
    rw [e, ih]; rfl
theorem cum_swap (f : Nat → Nat → Int) (X Y : Nat) : cum (fun a => cum (fun c => f a c) Y) X = cum (fun c => cum (fun a => f a c) X) Y := by
  induction X with
  | zero => exact (cum_zero Y).symm
  | succ X ih =>
    have e : cum (fun a => cum (fun c => f a c) Y) (X + 1) = cum (fun a => cum (fun c => f a c) Y) X + cum (fun c => f X c) Y := rfl
    rw [e, ih, ← cum_add]; rfl
theorem cum_upd (g h : Nat → Int) (n k : Nat) (hk : k < n) (he : ∀ t, t < n → t ≠ k → h t = g t) : cum h n - cum g n = h k - g k := by
  induction n with
  | zero => omega
  | succ n ih =>
    have e1 : cum g (n + 1) = cum g n + g n := rfl
    have e2 : cum h (n + 1) = cum h n + h n := rfl
    rw [e1, e2]
    by_cases e : k = n
    · subst e
      have := cum_congr (g := h) (g' := g) k (fun t ht => he t (by omega) (by omega))
      rw [this]; omega
    · have := ih (by omega) (fun t ht hn => he t (by omega) hn)
      have := he n (by omega) (fun e2 => e e2.symm)
      omega
theorem cum_le (g h : Nat → Int) (n : Nat) (he : ∀ t, t < n → g t ≤ h t) : cum g n ≤ cum h n := by
  induction n with
  | zero => exact Int.le_refl _
  | succ n ih =>
    have e1 : cum g (n + 1) = cum g n + g n := rfl
    have e2 : cum h (n + 1) = cum h n + h n := rfl
    have := ih (fun t ht => he t (by omega))
    have := he n (by omega)
    omega
theorem cum_lt (g h : Nat → Int) (n k : Nat) (hk : k < n) (he : ∀ t, t < n → g t ≤ h t) (hl : g k < h k) : cum g n < cum h n := by
  induction n with
  | zero => omega
  | succ n ih =>
    have e1 : cum g (n + 1) = cum g n + g n := rfl
    have e2 : cum h (n + 1) = cum h n + h n := rfl
    by_cases e : k = n
    · subst e
      have := cum_le g h k (fun t ht => he t (by omega))
      omega
    · have := ih (by omega) (fun t ht => he t (by omega))
      have := he n (by omega)
      omega

section
variable (X Y : Nat) (ws : List Int) (xss : List (List Int))
/-- what the answer b to the question y of the second player wins with the answers f of the first -/
def col (f : List Int) (y : Nat) (b : Int) : Int := cum (fun x => won ws xss (x * Y + y) (f.getD x 0) b) X
theorem col_congr {f f' : List Int} (h : ∀ x, x < X → f.getD x 0 = f'.getD x 0) (y : Nat) (b : Int) : col X Y ws xss f y b = col X Y ws xss f' y b := by
  unfold col; exact cum_congr X (fun t ht => by rw [h t ht])
theorem score_cols (p : List Int) : score X Y ws xss p = cum (fun y => col X Y ws xss p y (p.getD (X + y) 0)) Y := by
  unfold score
  rw [cum_mul]
  have : cum (fun a => cum (fun c => term X Y ws xss p (a * Y + c)) Y) X = cum (fun a => cum (fun c => won ws xss (a * Y + c) (p.getD a 0) (p.getD (X + c) 0)) Y) X :=
    cum_congr X (fun a _ => cum_congr Y (fun c hc => term_at hc))
  rw [this, cum_swap]; rfl
/-- the best answer -/
def rep (f : List Int) (y : Nat) : Int := if col X Y ws xss f y 0 < col X Y ws xss f y 1 then 1 else 0
theorem rep_bit (f : List Int) (y : Nat) : rep X Y ws xss f y = 0 ∨ rep X Y ws xss f y = 1 := by unfold rep; split <;> simp
theorem col_le (f : List Int) (y : Nat) {b : Int} (hb : b = 0 ∨ b = 1) : col X Y ws xss f y b ≤ col X Y ws xss f y (rep X Y ws xss f y) := by
  unfold rep
  split <;> rename_i h <;> rcases hb with rfl | rfl <;> omega
theorem col_lt (f : List Int) (y : Nat) (h : rep X Y ws xss f y = 1) : col X Y ws xss f y 0 < col X Y ws xss f y (rep X Y ws xss f y) := by
  rw [h]; unfold rep at h; split at h <;> rename_i g
  · exact g
  · omega
def reply (f : List Int) : List Int := (List.range Y).map (rep X Y ws xss f)
/-- how the play stands when k answers have been tried -/
def stp (f : List Int) (k : Nat) : List Int := f ++ (List.range Y).map (fun y => if y < k then rep X Y ws xss f y else 0)
theorem len_stp {f : List Int} (hf : f.length = X) (k : Nat) : (stp X Y ws xss f k).length = X + Y := by simp [stp, hf]
theorem stp_lo {f : List Int} (hf : f.length = X) (k x : Nat) (h : x < X) : (stp X Y ws xss f k).getD x 0 = f.getD x 0 := by
  unfold stp; rw [List.getD_eq_getElem?_getD, List.getD_eq_getElem?_getD, List.getElem?_append_left (by omega)]
theorem stp_hi {f : List Int} (hf : f.length = X) (k y : Nat) (h : y < Y) : (stp X Y ws xss f k).getD (X + y) 0 = if y < k then rep X Y ws xss f y else 0 := by
  unfold stp; rw [List.getD_eq_getElem?_getD, List.getElem?_append_right (by omega), hf]
  simp [h]
theorem stp_zero {f : List Int} : stp X Y ws xss f 0 = f ++ List.replicate Y 0 := by
  unfold stp; congr 1; simp [List.map_const']
theorem stp_drop {f : List Int} (hf : f.length = X) : (stp X Y ws xss f Y).drop X = reply X Y ws xss f := by
  unfold stp reply
  rw [← hf, List.drop_left]
  exact List.map_congr_left (fun y hy => by rw [if_pos (List.mem_range.1 hy)])
theorem ext_getD {l l' : List Int} (hl : l.length = l'.length) (h : ∀ i, i < l.length → l.getD i 0 = l'.getD i 0) : l = l' := by
  apply List.ext_getElem hl
  intro i h1 h2
  have := h i h1
  rw [List.getD_eq_getElem?_getD, List.getD_eq_getElem?_getD, List.getElem?_eq_getElem h1, List.getElem?_eq_getElem h2] at this
  exact this
theorem set_getD (l : List Int) (i j : Nat) (v : Int) (hi : i < l.length) : (l.set i v).getD j 0 = if j = i then v else l.getD j 0 := by
  rw [List.getD_eq_getElem?_getD, List.getD_eq_getElem?_getD, List.getElem?_set]
  by_cases e : i = j
  · subst e; simp [hi]
  · rw [if_neg e, if_neg (fun e2 => e e2.symm)]
theorem score_stp {f : List Int} (hf : f.length = X) : score X Y ws xss (stp X Y ws xss f Y) = cum (fun y => col X Y ws xss f y (rep X Y ws xss f y)) Y := by
  rw [score_cols]
  refine cum_congr Y (fun y hy => ?_)
  rw [stp_hi X Y ws xss hf _ _ hy, if_pos hy]
  exact col_congr X Y ws xss (fun x hx => stp_lo X Y ws xss hf _ _ hx) _ _
theorem tried {f : List Int} (hf : f.length = X) {k : Nat} (hk : k < Y) :
    score X Y ws xss ((stp X Y ws xss f k).set (X + k) 1) - score X Y ws xss (stp X Y ws xss f k) = col X Y ws xss f k 1 - col X Y ws xss f k 0 := by
  have hl := len_stp X Y ws xss hf k
  rw [score_cols, score_cols]
  have hc : ∀ y b, col X Y ws xss ((stp X Y ws xss f k).set (X + k) 1) y b = col X Y ws xss f y b := fun y b =>
    col_congr X Y ws xss (fun x hx => by rw [set_getD _ _ _ _ (by omega), if_neg (by omega), stp_lo X Y ws xss hf _ _ hx]) y b
  have hc2 : ∀ y b, col X Y ws xss (stp X Y ws xss f k) y b = col X Y ws xss f y b := fun y b => col_congr X Y ws xss (fun x hx => stp_lo X Y ws xss hf _ _ hx) y b
  rw [cum_upd _ _ Y k hk (fun t ht hne => by rw [hc, hc2, set_getD _ _ _ _ (by omega), if_neg (by omega)])]
  rw [hc, hc2, set_getD _ _ _ _ (by omega), if_pos rfl, stp_hi X Y ws xss hf _ _ hk, if_neg (by omega)]
theorem tried_iff {f : List Int} (hf : f.length = X) {k : Nat} (hk : k < Y) :
    score X Y ws xss (stp X Y ws xss f k) < score X Y ws xss ((stp X Y ws xss f k).set (X + k) 1) ↔ rep X Y ws xss f k = 1 := by
  have := tried X Y ws xss hf hk
  unfold rep
  split <;> rename_i h
  · simp; omega
  · simp; omega
theorem stp_yes {f : List Int} (hf : f.length = X) {k : Nat} (hk : k < Y) (h : rep X Y ws xss f k = 1) : (stp X Y ws xss f k).set (X + k) 1 = stp X Y ws xss f (k + 1) := by
  have hl := len_stp X Y ws xss hf k
  have hl' := len_stp X Y ws xss hf (k + 1)
  refine ext_getD (by rw [List.length_set, hl, hl']) (fun i hi => ?_)
  rw [List.length_set] at hi
  rw [set_getD _ _ _ _ (by omega)]
  by_cases hx : i < X
  · rw [if_neg (by omega), stp_lo X Y ws xss hf _ _ hx, stp_lo X Y ws xss hf _ _ hx]
  · obtain ⟨y, rfl⟩ : ∃ y, i = X + y := ⟨i - X, by omega⟩
    rw [stp_hi X Y ws xss hf _ _ (by omega), stp_hi X Y ws xss hf _ _ (by omega)]
    by_cases e : y = k
    · subst e; rw [if_pos rfl, if_pos (by omega), h]
    · rw [if_neg (by omega)]
      by_cases g : y < k
      · rw [if_pos g, if_pos (by omega)]
      · rw [if_neg g, if_neg (by omega)]
theorem stp_no {f : List Int} (hf : f.length = X) {k : Nat} (hk : k < Y) (h : ¬ rep X Y ws xss f k = 1) : stp X Y ws xss f k = stp X Y ws xss f (k + 1) := by
  have hl := len_stp X Y ws xss hf k
  have hl' := len_stp X Y ws xss hf (k + 1)
  have h0 : rep X Y ws xss f k = 0 := by have := rep_bit X Y ws xss f k; omega
  refine ext_getD (by rw [hl, hl']) (fun i hi => ?_)
  by_cases hx : i < X
  · rw [stp_lo X Y ws xss hf _ _ hx, stp_lo X Y ws xss hf _ _ hx]
  · obtain ⟨y, rfl⟩ : ∃ y, i = X + y := ⟨i - X, by omega⟩
    rw [stp_hi X Y ws xss hf _ _ (by omega), stp_hi X Y ws xss hf _ _ (by omega)]
    by_cases e : y = k
    · subst e; rw [if_neg (by omega), if_pos (by omega), h0]
    · by_cases g : y < k
      · rw [if_pos g, if_pos (by omega)]
      · rw [if_neg g, if_neg (by omega)]
end

/-! ### the first place with the greatest number -/
def am (S : Nat → Int) : Nat → Nat
  | 0 => 0
  | n + 1 => if S (am S n) < S (n + 1) then n + 1 else am S n
theorem am_le (S : Nat → Int) (n : Nat) : am S n ≤ n := by
  induction n with
  | zero => exact Nat.le_refl _
  | succ n ih => unfold am; split <;> omega
theorem am_max (S : Nat → Int) (n : Nat) : ∀ j, j ≤ n → S j ≤ S (am S n) := by
  induction n with
  | zero => intro j hj; obtain rfl : j = 0 := by omega
            exact Int.le_refl _
  | succ n ih =>
    intro j hj
    unfold am
    split <;> rename_i h
    · by_cases e : j = n + 1
      · subst e; exact Int.le_refl _
      · have := ih j (by omega); omega
    · by_cases e : j = n + 1
      · subst e; omega
      · exact ih j (by omega)
theorem am_first (S : Nat → Int) (n : Nat) : ∀ j, j < am S n → S j < S (am S n) := by
  induction n with
  | zero => intro j hj; unfold am at hj; omega
  | succ n ih =>
    intro j hj
    unfold am at hj ⊢
    split at hj <;> rename_i h
    · rw [if_pos h]
      have := am_max S n j (by omega); omega
    · rw [if_neg h]; exact ih j hj
theorem am_unique (S : Nat → Int) (n m : Nat) (hm : m ≤ n) (h1 : ∀ j, j ≤ n → S j ≤ S m) (h2 : ∀ j, j < m → S j < S m) : am S n = m := by
  have a1 := am_max S n m hm
  have a2 := h1 _ (am_le S n)
  rcases Nat.lt_trichotomy (am S n) m with h | h | h
  · have := h2 _ h; omega
  · exact h
  · have := am_first S n m h; omega

/-! ### places of plays -/
theorem at_split : ∀ X Y : Fin 4, ∀ k b : Fin 8, k.val < 2 ^ X.val → b.val < 2 ^ Y.val → at_ (X.val + Y.val) (k.val * 2 ^ Y.val + b.val) = at_ X.val k.val ++ at_ Y.val b.val := by decide +kernel
theorem bit_less : ∀ Y : Fin 4, ∀ b c : Fin 8, b.val < c.val → c.val < 2 ^ Y.val → ∃ y : Fin 3, y.val < Y.val ∧ bit Y.val b.val y.val = 0 ∧ bit Y.val c.val y.val = 1 := by decide +kernel
theorem bit_find : ∀ Y : Fin 4, ∀ r0 r1 r2 : Fin 2, ∃ c : Fin 8, c.val < 2 ^ Y.val ∧ (0 < Y.val → bit Y.val c.val 0 = (r0.val : Int)) ∧ (1 < Y.val → bit Y.val c.val 1 = (r1.val : Int)) ∧ (2 < Y.val → bit Y.val c.val 2 = (r2.val : Int)) := by decide +kernel
theorem bit_01 (n p i : Nat) : bit n p i = 0 ∨ bit n p i = 1 := by unfold bit; omega
theorem pow_le {n : Nat} (h : n ≤ 3) : 2 ^ n ≤ 8 := Nat.le_trans (Nat.pow_le_pow_right (by omega) h) (by decide)
theorem find_place {Y : Nat} (hY : Y ≤ 3) (r : Nat → Int) (hr : ∀ y, r y = 0 ∨ r y = 1) : ∃ c, c < 2 ^ Y ∧ ∀ y, y < Y → bit Y c y = r y := by
  have hf : ∀ y, ∃ q : Fin 2, r y = (q.val : Int) := fun y => by
    rcases hr y with h | h
    · exact ⟨0, by rw [h]; rfl⟩
    · exact ⟨1, by rw [h]; rfl⟩
  obtain ⟨q0, h0⟩ := hf 0
  obtain ⟨q1, h1⟩ := hf 1
  obtain ⟨q2, h2⟩ := hf 2
  obtain ⟨c, hc, b0, b1, b2⟩ := bit_find ⟨Y, by omega⟩ q0 q1 q2
  refine ⟨c.val, hc, fun y hy => ?_⟩
  have hy3 : y = 0 ∨ y = 1 ∨ y = 2 := by omega
  rcases hy3 with rfl | rfl | rfl
  · rw [h0]; exact b0 hy
  · rw [h1]; exact b1 hy
  · rw [h2]; exact b2 hy

section
variable (X Y : Nat) (ws : List Int) (xss : List (List Int))
/-- the score of the play at a place -/
def S (i : Nat) : Int := score X Y ws xss (at_ (X + Y) i)
/-- the best score with the first player's answers at a place -/
def V (k : Nat) : Int := score X Y ws xss (stp X Y ws xss (at_ X k) Y)
/-- the first of the best plays -/
def best : List Int := stp X Y ws xss (at_ X (am (V X Y ws xss) (2 ^ X - 1))) Y
theorem S_at (hX : X ≤ 3) (hY : Y ≤ 3) (k b : Nat) (hk : k < 2 ^ X) (hb : b < 2 ^ Y) : S X Y ws xss (k * 2 ^ Y + b) = cum (fun y => col X Y ws xss (at_ X k) y (bit Y b y)) Y := by
  unfold S
  have h8 := pow_le hX
  have h8' := pow_le hY
  rw [at_split ⟨X, by omega⟩ ⟨Y, by omega⟩ ⟨k, by omega⟩ ⟨b, by omega⟩ hk hb, score_cols]
  refine cum_congr Y (fun y hy => ?_)
  have e1 : (at_ X k ++ at_ Y b).getD (X + y) 0 = bit Y b y := by
    rw [List.getD_eq_getElem?_getD, List.getElem?_append_right (by rw [len_at]; omega), len_at]
    simp [at_, hy]
  rw [e1]
  exact col_congr X Y ws xss (fun x hx => by rw [List.getD_eq_getElem?_getD, List.getD_eq_getElem?_getD, List.getElem?_append_left (by rw [len_at]; exact hx)]) _ _
theorem best_at (hX : X ≤ 3) (hY : Y ≤ 3) : at_ (X + Y) (am (S X Y ws xss) (2 ^ (X + Y) - 1)) = best X Y ws xss ∧ am (S X Y ws xss) (2 ^ (X + Y) - 1) < 2 ^ (X + Y) := by
  obtain ⟨k, hk⟩ : ∃ k, am (V X Y ws xss) (2 ^ X - 1) = k := ⟨_, rfl⟩
  have hp : 0 < 2 ^ X := Nat.two_pow_pos X
  have hp' : 0 < 2 ^ Y := Nat.two_pow_pos Y
  have hkl : k < 2 ^ X := by have := am_le (V X Y ws xss) (2 ^ X - 1); omega
  have hV := am_max (V X Y ws xss) (2 ^ X - 1)
  have hF := am_first (V X Y ws xss) (2 ^ X - 1)
  rw [hk] at hV hF
  obtain ⟨c, hc, hcb⟩ := find_place hY (rep X Y ws xss (at_ X k)) (rep_bit X Y ws xss (at_ X k))
  have hpow : 2 ^ (X + Y) = 2 ^ X * 2 ^ Y := Nat.pow_add _ _ _
  have hVk : ∀ j, V X Y ws xss j = cum (fun y => col X Y ws xss (at_ X j) y (rep X Y ws xss (at_ X j) y)) Y := fun j => score_stp X Y ws xss (len_at X j)
  have hSt : S X Y ws xss (k * 2 ^ Y + c) = V X Y ws xss k := by
    rw [S_at X Y ws xss hX hY k c hkl hc, hVk]
    exact cum_congr Y (fun y hy => by rw [hcb y hy])
  have hSle : ∀ k' b', k' < 2 ^ X → b' < 2 ^ Y → S X Y ws xss (k' * 2 ^ Y + b') ≤ V X Y ws xss k' := fun k' b' h1 h2 => by
    rw [S_at X Y ws xss hX hY k' b' h1 h2, hVk]
    exact cum_le _ _ Y (fun y _ => col_le X Y ws xss _ y (bit_01 _ _ _))
  have hdec : ∀ j, j < 2 ^ (X + Y) → ∃ k' b', k' < 2 ^ X ∧ b' < 2 ^ Y ∧ j = k' * 2 ^ Y + b' := fun j hj => by
    refine ⟨j / 2 ^ Y, j % 2 ^ Y, ?_, Nat.mod_lt _ hp', ?_⟩
    · rw [Nat.div_lt_iff_lt_mul hp', ← hpow]; exact hj
    · rw [Nat.mul_comm]; exact (Nat.div_add_mod j (2 ^ Y)).symm
  have hlt : k * 2 ^ Y + c < 2 ^ (X + Y) := by
    rw [hpow]
    have h1 : k * 2 ^ Y + c < (k + 1) * 2 ^ Y := by rw [Nat.add_mul]; omega
    have h2 : (k + 1) * 2 ^ Y ≤ 2 ^ X * 2 ^ Y := Nat.mul_le_mul_right _ (by omega)
    omega
  have hun : am (S X Y ws xss) (2 ^ (X + Y) - 1) = k * 2 ^ Y + c := by
    refine am_unique _ _ _ (by omega) (fun j hj => ?_) (fun j hj => ?_)
    · obtain ⟨k', b', h1, h2, rfl⟩ := hdec j (by omega)
      rw [hSt]
      exact Int.le_trans (hSle k' b' h1 h2) (hV k' (by omega))
    · obtain ⟨k', b', h1, h2, rfl⟩ := hdec j (by omega)
      rw [hSt]
      rcases Nat.lt_trichotomy k' k with h | h | h
      · exact Int.lt_of_le_of_lt (hSle k' b' h1 h2) (hF k' h)
      · subst h
        have hb : b' < c := by omega
        have h8' := pow_le hY
        obtain ⟨y, hy, y0, y1⟩ := bit_less ⟨Y, by omega⟩ ⟨b', by omega⟩ ⟨c, by omega⟩ hb hc
        rw [S_at X Y ws xss hX hY k' b' h1 h2, hVk]
        refine cum_lt _ _ Y y.val hy (fun t _ => col_le X Y ws xss _ t (bit_01 _ _ _)) ?_
        have hr : rep X Y ws xss (at_ X k') y.val = 1 := by rw [← hcb y.val hy]; exact y1
        have e0 : bit Y b' y.val = 0 := y0
        simp only [e0]
        exact col_lt X Y ws xss _ _ hr
      · have : (k + 1) * 2 ^ Y ≤ k' * 2 ^ Y := Nat.mul_le_mul_right _ (by omega)
        rw [Nat.add_mul] at this
        omega
  rw [hun]
  refine ⟨?_, hlt⟩
  have h8 := pow_le hX
  have h8' := pow_le hY
  rw [at_split ⟨X, by omega⟩ ⟨Y, by omega⟩ ⟨k, by omega⟩ ⟨c, by omega⟩ hkl hc]
  unfold best stp
  rw [hk]
  congr 1
  unfold at_
  exact List.map_congr_left (fun y hy => by
    have hy' := List.mem_range.1 hy
    rw [if_pos hy']; exact hcb y hy')
end
end Go.Proofs.Ytimfnhejiiagmaa.gbm
