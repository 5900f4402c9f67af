/- The arithmetic of a Game in which the first player tells the second one a bit. -/
import Derived.Test.YtimfnhejiiagmaaBvm
import Derived.Test.YtimfnhejiiagmaaGbpi
import Derived.Test.YtimfnhejiiagmaaAskq
namespace Go.Proofs.Ytimfnhejiiagmaa.tam
open Go.RowKit Go.Deep Go.Proofs.Ytimfnhejiiagmaa.base
open Go.Proofs.Ytimfnhejiiagmaa.gwon (won won_bd wt wt_bd)
open Go.Proofs.Ytimfnhejiiagmaa.gval (okGame)
open Go.Proofs.Ytimfnhejiiagmaa.plays (bit at_ get_at len_at)
open Go.Proofs.Ytimfnhejiiagmaa.worth (cum cum_congr)
open Go.Proofs.Ytimfnhejiiagmaa.bvm (mx mx_nn mx_ge mx_in mx_le mx_eq mx_congr)

def m2 (a b : Int) : Int := if a < b then b else a
theorem m2_nn {a b : Int} (h : 0 ≤ a) : 0 ≤ m2 a b := by unfold m2; split <;> omega
theorem mx_att {g : Nat → Int} {n : Nat} (h : ∀ t, 0 ≤ g t) (hn : 0 < n) : ∃ t, t < n ∧ mx g n = g t := by
  rcases mx_in g n with e | e
  · exact ⟨0, hn, by have := mx_ge g n 0 hn; have := h 0; omega⟩
  · exact e
theorem cum_pos {g : Nat → Int} (n : Nat) (h : ∀ t, 0 ≤ g t) : 0 ≤ cum g n := by
  induction n with
  | zero => simp [cum]
  | succ n ih => have := h n; unfold cum; omega

section
variable (X Y : Nat) (ws : List Int) (xss : List (List Int))
/-- what the first n questions win where they tell d, and the second player is asked y and answers b -/
def sc (A T : Nat → Int) (d : Int) (y : Nat) (b : Int) (n : Nat) : Int := cum (fun x => if T x = d then won ws xss (x * Y + y) (A x) b else 0) n
def top (A T : Nat → Int) (d : Int) (y : Nat) : Int := m2 (sc Y ws xss A T d y 0 X) (sc Y ws xss A T d y 1 X)
def fullD (A T : Nat → Int) (d : Int) (n : Nat) : Int := cum (fun y => top X Y ws xss A T d y) n
def full (A T : Nat → Int) (n : Nat) : Int := cum (fun q => top X Y ws xss A T ((q % 2 : Nat) : Int) (q / 2)) n
theorem full_two (A T : Nat → Int) : ∀ n, full X Y ws xss A T (2 * n) = fullD X Y ws xss A T 0 n + fullD X Y ws xss A T 1 n
  | 0 => rfl
  | n + 1 => by
    have ih := full_two A T n
    have e1 : (2 * n) % 2 = 0 := by omega
    have e2 : (2 * n) / 2 = n := by omega
    have e3 : (2 * n + 1) % 2 = 1 := by omega
    have e4 : (2 * n + 1) / 2 = n := by omega
    show full X Y ws xss A T (2 * n) + top X Y ws xss A T (((2 * n) % 2 : Nat) : Int) ((2 * n) / 2) + top X Y ws xss A T (((2 * n + 1) % 2 : Nat) : Int) ((2 * n + 1) / 2) = (fullD X Y ws xss A T 0 n + top X Y ws xss A T 0 n) + (fullD X Y ws xss A T 1 n + top X Y ws xss A T 1 n)
    rw [ih, e1, e2, e3, e4]
    simp only [Int.natCast_zero, Int.natCast_one]
    omega
theorem sc_congr {A A' T : Nat → Int} {d : Int} {y : Nat} {b : Int} {n : Nat} (h : ∀ x, x < n → T x = d → A x = A' x) : sc Y ws xss A T d y b n = sc Y ws xss A' T d y b n := by
  unfold sc
  refine cum_congr n (fun x hx => ?_)
  by_cases e : T x = d
  · rw [if_pos e, if_pos e, h x hx e]
  · rw [if_neg e, if_neg e]
theorem fullD_congr {A A' T : Nat → Int} {d : Int} (h : ∀ x, x < X → T x = d → A x = A' x) (n : Nat) : fullD X Y ws xss A T d n = fullD X Y ws xss A' T d n := by
  unfold fullD top
  exact cum_congr n (fun y _ => by rw [sc_congr Y ws xss h, sc_congr Y ws xss h])
theorem full_congr {A A' T T' : Nat → Int} (h : ∀ x, x < X → A x = A' x) (h' : ∀ x, x < X → T x = T' x) (n : Nat) : full X Y ws xss A T n = full X Y ws xss A' T' n := by
  unfold full top sc
  refine cum_congr n (fun q _ => ?_)
  have : ∀ b, cum (fun x => if T x = ((q % 2 : Nat) : Int) then won ws xss (x * Y + q / 2) (A x) b else 0) X = cum (fun x => if T' x = ((q % 2 : Nat) : Int) then won ws xss (x * Y + q / 2) (A' x) b else 0) X := fun b => cum_congr X (fun x hx => by rw [h x hx, h' x hx])
  rw [this, this]
theorem sc_pos (h : okGame X Y ws xss) (A T : Nat → Int) (d : Int) (y : Nat) (b : Int) (n : Nat) : 0 ≤ sc Y ws xss A T d y b n := by
  unfold sc
  exact cum_pos n (fun x => by split; exact (won_bd h _ _ _).1; exact Int.le_refl _)
theorem sc_le (h : okGame X Y ws xss) (A T : Nat → Int) (d : Int) (y : Nat) (b : Int) (n : Nat) (hn : n ≤ 3) : sc Y ws xss A T d y b n ≤ 297 := by
  have := bvm.cum_nn (g := fun x => if T x = d then won ws xss (x * Y + y) (A x) b else 0) (m := 99) n (fun x _ => by
    have := won_bd h (x * Y + y) (A x) b
    show 0 ≤ (if T x = d then won ws xss (x * Y + y) (A x) b else 0) ∧ (if T x = d then won ws xss (x * Y + y) (A x) b else 0) ≤ 99
    split <;> omega)
  unfold sc; omega
theorem top_bd (h : okGame X Y ws xss) (A T : Nat → Int) (d : Int) (y : Nat) : 0 ≤ top X Y ws xss A T d y ∧ top X Y ws xss A T d y ≤ 297 := by
  have hX : X ≤ 3 := by have := h.1.1.2; omega
  have h1 := sc_pos X Y ws xss h A T d y 0 X
  have h2 := sc_pos X Y ws xss h A T d y 1 X
  have h3 := sc_le X Y ws xss h A T d y 0 X hX
  have h4 := sc_le X Y ws xss h A T d y 1 X hX
  unfold top m2
  split <;> omega
theorem fullD_bd (h : okGame X Y ws xss) (A T : Nat → Int) (d : Int) (n : Nat) (hn : n ≤ 3) : 0 ≤ fullD X Y ws xss A T d n ∧ fullD X Y ws xss A T d n ≤ 891 := by
  have := bvm.cum_nn (g := fun y => top X Y ws xss A T d y) n (fun t _ => top_bd X Y ws xss h A T d t)
  unfold fullD; omega
theorem full_bd (h : okGame X Y ws xss) (A T : Nat → Int) (n : Nat) (hn : n ≤ 6) : 0 ≤ full X Y ws xss A T n ∧ full X Y ws xss A T n ≤ 1782 := by
  have := bvm.cum_nn (g := fun q => top X Y ws xss A T ((q % 2 : Nat) : Int) (q / 2)) n (fun q _ => top_bd X Y ws xss h A T ((q % 2 : Nat) : Int) (q / 2))
  unfold full; omega

/-- the greatest score of the questions that tell d -/
def S (T : Nat → Int) (d : Int) : Int := mx (fun p => fullD X Y ws xss (bit X p) T d Y) (2 ^ X)
theorem S_bd (h : okGame X Y ws xss) (T : Nat → Int) (d : Int) : 0 ≤ S X Y ws xss T d ∧ S X Y ws xss T d ≤ 891 :=
  ⟨mx_nn _ _, mx_le _ (by decide) _ (fun p _ => (fullD_bd X Y ws xss h _ _ _ _ (by have := h.1.2.2; omega)).2)⟩
theorem S_two (h : okGame X Y ws xss) {T : Nat → Int} : mx (fun p => full X Y ws xss (bit X p) T (2 * Y)) (2 ^ X) = S X Y ws xss T 0 + S X Y ws xss T 1 := by
  have hX : X ≤ 3 := by have := h.1.1.2; omega
  have hY : Y ≤ 3 := by have := h.1.2.2; omega
  have hp : 0 < 2 ^ X := Nat.pow_pos (by omega)
  have n0 : ∀ d p, 0 ≤ fullD X Y ws xss (bit X p) T d Y := fun d p => (fullD_bd X Y ws xss h _ _ _ _ hY).1
  obtain ⟨p0, h0, e0⟩ := mx_att (fun p => n0 0 p) hp
  obtain ⟨p1, h1, e1⟩ := mx_att (fun p => n0 1 p) hp
  have l0 := fun p => mx_ge (fun p => fullD X Y ws xss (bit X p) T 0 Y) (2 ^ X) p
  have l1 := fun p => mx_ge (fun p => fullD X Y ws xss (bit X p) T 1 Y) (2 ^ X) p
  refine Int.le_antisymm (mx_le _ (Int.add_nonneg (mx_nn _ _) (mx_nn _ _)) _ (fun p hq => ?_)) ?_
  · rw [full_two]; exact Int.add_le_add (l0 p hq) (l1 p hq)
  · obtain ⟨p, hq, hb⟩ := gbm.find_place (Y := X) hX (fun x => if T x = 0 then bit X p0 x else bit X p1 x) (fun x => by split <;> exact gbm.bit_01 _ _ _)
    have a := mx_ge (fun p => full X Y ws xss (bit X p) T (2 * Y)) (2 ^ X) p hq
    simp only [full_two] at a
    have f0 : fullD X Y ws xss (bit X p) T 0 Y = fullD X Y ws xss (bit X p0) T 0 Y := fullD_congr X Y ws xss (fun x hx hT => by rw [hb x hx, if_pos hT]) _
    have f1 : fullD X Y ws xss (bit X p) T 1 Y = fullD X Y ws xss (bit X p1) T 1 Y := fullD_congr X Y ws xss (fun x hx hT => by rw [hb x hx, if_neg (by rw [hT]; decide)]) _
    rw [f0, f1] at a
    unfold S
    rw [e0, e1]
    simp only [full_two]
    exact a

/-! ### the model goes over codes whose first digit is the last question's -/
def cb (c x : Nat) : Int := ((c / 2 ^ x % 2 : Nat) : Int)
theorem find_cb (hX : X ≤ 3) (r : Nat → Int) (hr : ∀ x, r x = 0 ∨ r x = 1) : ∃ c, c < 2 ^ X ∧ ∀ x, x < X → cb c x = r x := by
  obtain ⟨c, hc, hb⟩ := gbm.find_place (Y := X) hX (fun x => r (X - 1 - x)) (fun x => hr _)
  refine ⟨c, hc, fun x hx => ?_⟩
  have := hb (X - 1 - x) (by omega)
  unfold bit at this
  rw [show X - 1 - (X - 1 - x) = x by omega] at this
  exact this
def mod' (q : Nat) : Int := full X Y ws xss (cb (q / 2 ^ X)) (cb (q % 2 ^ X)) (2 * Y)
def prg (p : Nat) : Int := S X Y ws xss (bit X p) 0 + S X Y ws xss (bit X p) 1
theorem same (h : okGame X Y ws xss) : mx (prg X Y ws xss) (2 ^ X) = mx (mod' X Y ws xss) (2 ^ X * 2 ^ X) := by
  have hX : X ≤ 3 := by have := h.1.1.2; omega
  have hp : 0 < 2 ^ X := Nat.pow_pos (by omega)
  refine Int.le_antisymm (mx_le _ (mx_nn _ _) _ (fun p hq => ?_)) (mx_le _ (mx_nn _ _) _ (fun q hq => ?_))
  · unfold prg
    rw [← S_two X Y ws xss h]
    refine mx_le _ (mx_nn _ _) _ (fun k hk => ?_)
    obtain ⟨c, hc, ec⟩ := find_cb X hX (bit X k) (fun x => gbm.bit_01 _ _ _)
    obtain ⟨s, hs, es⟩ := find_cb X hX (bit X p) (fun x => gbm.bit_01 _ _ _)
    have hlt : c * 2 ^ X + s < 2 ^ X * 2 ^ X := by
      have g1 : c * 2 ^ X + s < (c + 1) * 2 ^ X := by rw [Nat.add_mul]; omega
      exact Nat.lt_of_lt_of_le g1 (Nat.mul_le_mul_right _ (by omega))
    have e1 : (c * 2 ^ X + s) / 2 ^ X = c := by rw [Nat.add_comm, Nat.add_mul_div_right _ _ hp, Nat.div_eq_of_lt hs, Nat.zero_add]
    have e2 : (c * 2 ^ X + s) % 2 ^ X = s := by rw [Nat.add_comm, Nat.add_mul_mod_self_right, Nat.mod_eq_of_lt hs]
    have := mx_ge (mod' X Y ws xss) (2 ^ X * 2 ^ X) _ hlt
    unfold mod' at this
    rw [e1, e2, full_congr X Y ws xss ec es] at this
    exact this
  · have hc : q / 2 ^ X < 2 ^ X := (Nat.div_lt_iff_lt_mul hp).2 hq
    have hs : q % 2 ^ X < 2 ^ X := Nat.mod_lt _ hp
    have cb01 : ∀ c x, cb c x = 0 ∨ cb c x = 1 := fun c x => by unfold cb; omega
    obtain ⟨k, hk, ek⟩ := gbm.find_place (Y := X) hX (cb (q / 2 ^ X)) (cb01 _)
    obtain ⟨p, hq', ep⟩ := gbm.find_place (Y := X) hX (cb (q % 2 ^ X)) (cb01 _)
    have a := mx_ge (prg X Y ws xss) (2 ^ X) p hq'
    unfold prg at a
    rw [← S_two X Y ws xss h] at a
    have b := mx_ge (fun p' => full X Y ws xss (bit X p') (bit X p) (2 * Y)) (2 ^ X) k hk
    simp only [full_congr X Y ws xss ek ep] at b
    show full X Y ws xss (cb (q / 2 ^ X)) (cb (q % 2 ^ X)) (2 * Y) ≤ _
    exact Int.le_trans b a
end
end Go.Proofs.Ytimfnhejiiagmaa.tam
