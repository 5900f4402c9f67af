/- The score of a play of a Game, of both sides. -/
import Derived.Test.YtlaaiahkdkhehabGwon
import Derived.Test.YtlaaiahkdkhehabWorth
import Derived.Test.YtlaaiahkdkhehabGtot
namespace Go.Proofs.Ytlaaiahkdkhehab.gscore
open Go.RowKit Go.Deep Go.Proofs.Ytlaaiahkdkhehab.base
open Go.Proofs.Ytlaaiahkdkhehab.ints (ret_int)
open Go.Proofs.Ytlaaiahkdkhehab.val (okSizes)
open Go.Proofs.Ytlaaiahkdkhehab.gval (okGame)
open Go.Proofs.Ytlaaiahkdkhehab.play (within)
open Go.Proofs.Ytlaaiahkdkhehab.row (at_)
open Go.Proofs.Ytlaaiahkdkhehab.gwon (won won_bd)

theorem at_cast (Y a c : Nat) : at_ (Y : Int) (a : Int) (c : Int) = a * Y + c := by
  unfold at_
  have : ((a : Int) * (Y : Int) + (c : Int)) = ((a * Y + c : Nat) : Int) := by simp
  rw [this, Int.toNat_natCast]
/-- what a play wins for the pair t -/
def term (X Y : Nat) (ws : List Int) (xss : List (List Int)) (p : List Int) (t : Nat) : Int := won ws xss t (p.getD (t / Y) 0) (p.getD (X + t % Y) 0)
def score (X Y : Nat) (ws : List Int) (xss : List (List Int)) (p : List Int) : Int := worth.cum (term X Y ws xss p) (X * Y)
theorem term_at {X Y a c : Nat} {ws : List Int} {xss : List (List Int)} {p : List Int} (h : c < Y) : term X Y ws xss p (a * Y + c) = won ws xss (a * Y + c) (p.getD a 0) (p.getD (X + c) 0) := by
  unfold term
  have e1 : (a * Y + c) / Y = a := by
    rw [Nat.add_comm, Nat.add_mul_div_right _ _ (by omega), Nat.div_eq_of_lt h, Nat.zero_add]
  have e2 : (a * Y + c) % Y = c := by rw [Nat.add_comm, Nat.add_mul_mod_self_right, Nat.mod_eq_of_lt h]
  rw [e1, e2]
theorem score_bd {X Y : Nat} {ws : List Int} {xss : List (List Int)} (h : okGame X Y ws xss) (p : List Int) (n : Nat) (hn : n ≤ X * Y) : 0 ≤ worth.cum (term X Y ws xss p) n ∧ worth.cum (term X Y ws xss p) n ≤ 891 := by
  have h9 : X * Y ≤ 9 := by have := (val.mul_small h.1).2; exact_mod_cast this
  have : ∀ n : Nat, 0 ≤ worth.cum (term X Y ws xss p) n ∧ worth.cum (term X Y ws xss p) n ≤ 99 * n := by
    intro n
    induction n with
    | zero => simp [worth.cum]
    | succ n ih =>
      have h2 := won_bd h n (p.getD (n / Y) 0) (p.getD (X + n % Y) 0)
      have e : worth.cum (term X Y ws xss p) (n + 1) = worth.cum (term X Y ws xss p) n + won ws xss n (p.getD (n / Y) 0) (p.getD (X + n % Y) 0) := rfl
      rw [e]; omega
  have := this n
  omega
theorem held6 {w w' : World} {p1 p2 p3 p4 p5 p6 : Addr} {u1 u2 u3 u4 u5 u6 : Value} (h1 : w.cell? p1 = some u1) (h2 : w.cell? p2 = some u2) (h3 : w.cell? p3 = some u3) (h4 : w.cell? p4 = some u4)
    (h5 : w.cell? p5 = some u5) (h6 : w.cell? p6 = some u6) (hb : Below w.heap.size w w') :
    w'.cell? p1 = some u1 ∧ w'.cell? p2 = some u2 ∧ w'.cell? p3 = some u3 ∧ w'.cell? p4 = some u4 ∧ w'.cell? p5 = some u5 ∧ w'.cell? p6 = some u6 ∧ Below w.heap.size w w' :=
  ⟨below_cell hb _ _ h1, below_cell hb _ _ h2, below_cell hb _ _ h3, below_cell hb _ _ h4, below_cell hb _ _ h5, below_cell hb _ _ h6, hb⟩





end Go.Proofs.Ytlaaiahkdkhehab.gscore
