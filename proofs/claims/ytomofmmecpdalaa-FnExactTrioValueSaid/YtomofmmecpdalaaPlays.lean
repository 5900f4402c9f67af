/- The plays in order: playAt, PlaysOf of both sides. -/
import Derived.Test.YtomofmmecpdalaaPile
import Derived.Test.YtomofmmecpdalaaPlay
namespace Go.Proofs.Ytomofmmecpdalaa.plays
open Go.RowKit Go.Deep Go.Proofs.Ytomofmmecpdalaa.base
open Go.Proofs.Ytomofmmecpdalaa.ints (infoInt infoInts)
open Go.Proofs.Ytomofmmecpdalaa.val (okSizes)

/-- answer i of the play with the place p, for n questions in all -/
def bit (n p i : Nat) : Int := ((p / 2 ^ (n - 1 - i) % 2 : Nat) : Int)
def at_ (n p : Nat) : List Int := (List.range n).map (bit n p)
/-- the first k plays -/
def upto (n k : Nat) : List (List Int) := (List.range k).map (at_ n)
def all (n : Nat) : List (List Int) := upto n (2 ^ n)
theorem len_at (n p : Nat) : (at_ n p).length = n := by simp [at_]
theorem len_upto (n k : Nat) : (upto n k).length = k := by simp [upto]
theorem upto_succ (n k : Nat) : upto n (k + 1) = upto n k ++ [at_ n k] := by simp [upto, List.range_succ]
theorem at_succ (n p k : Nat) : (List.range (k + 1)).map (bit n p) = (List.range k).map (bit n p) ++ [bit n p k] := by simp [List.range_succ]
theorem get_at (n p k : Nat) (h : k < n) : (at_ n p).getD k 0 = bit n p k := by simp [at_, List.getD, h]
theorem and_small : ∀ m : Fin 64, bits .and .i64 ((m.val : Nat) : Int) 1 = ((m.val % 2 : Nat) : Int) := by decide
theorem and_bit (n p k : Nat) (hp : p < 64) : bits .and .i64 ((p : Int) / 2 ^ (n - 1 - k)) 1 = bit n p k := by
  have e : ((p : Int) / 2 ^ (n - 1 - k)) = ((p / 2 ^ (n - 1 - k) : Nat) : Int) := by simp
  have hl : p / 2 ^ (n - 1 - k) < 64 := Nat.lt_of_le_of_lt (Nat.div_le_self _ _) hp
  rw [e, and_small ⟨_, hl⟩]
  rfl
theorem two_pow {n : Nat} (h : n ≤ 6) : 2 ^ n ≤ 64 := Nat.le_trans (Nat.pow_le_pow_right (by omega) h) (by decide)
theorem total_upto (n k : Nat) (h : n ≤ 6) (hk : k ≤ 64) : rws.total (upto n k) ≤ 1048576 := by
  have : (((upto n k).map List.length).sum) = k * n := by
    unfold upto
    rw [List.map_map]
    induction k with
    | zero => simp
    | succ k ih =>
      rw [List.range_succ, List.map_append, List.sum_append, ih (by omega)]
      simp [len_at, Nat.add_mul]
  unfold rws.total
  rw [this, len_upto]
  have : k * n ≤ 64 * 6 := Nat.mul_le_mul hk h
  omega

theorem row_done {n p : Nat} {wr : World} {g : Nat} (h : wr.rowIs g 3 n (fun j => if j < n then .int .i64 (bit n p j) else .int .i64 0)) : wr.rowIs g 3 (at_ n p).length (fun j => .int .i64 ((at_ n p).getD j 0)) := by
  rw [len_at]
  refine h.congr (fun j hj => ?_)
  rw [if_pos hj, get_at _ _ _ hj]


set_option maxHeartbeats 2000000 in
theorem play_at (n p : Nat) (w : World) (hn : n ≤ 6) (hp : p < 64) :
    Calls Try.prog 90 #[.int .i64 (p : Int), .int .i64 (n : Int)] w fun e w' => ∃ u, e = .returned u ∧ OwnInts w' w.heap.size w'.heap.size u (at_ n p) ∧ pile.Typ w' u ∧ Below w.heap.size w w' := by
  have hmk := run_make_row' (P := Try.prog) 33 3 (.int .i64 0) 8 Try.underlying33 infoInt rfl .i64 .i64 n (by omega) (by omega)
  go_enter Try.func90, Try.ntmps90
  go_wp2_with fail
  clear hmk
  go_loopw [6, 11] (fun z i wr => ∃ k : Nat, k ≤ n ∧ i = .int .i64 k ∧ (∃ z', z = z') ∧ Hid (Below w.heap.size w wr) ∧ Hid (wr.rowIs w.heap.size 3 n (fun j => if j < k then .int .i64 (bit n p j) else .int .i64 0))) (fun _ i _ => n - (intOf i).toNat)
  case atStart => exact ⟨0, Nat.zero_le _, rfl, ⟨_, rfl⟩, (Below.refl _ _).alloc (Nat.le_refl _) _, (World.rowIs_made w _ _ _).congr (fun j _ => by simp)⟩
  case round =>
    obtain ⟨k, hk, rfl, ⟨z', rfl⟩, hB, hrow⟩ := hrel
    by_cases hlt : k < n
    · have hkz : (k : Int) < (n : Int) := by omega
      have g2 := hrow.out.cell hlt
      have g3 := hrow.out.frozen k
      simp only [Nat.lt_irrefl, if_false] at g2
      have HX := Lib.hid (and_bit n p k hp)
      go_wp2_with fail
      rw [HX.out]
      refine ⟨⟨k + 1, by omega, by go_num, ⟨_, rfl⟩, hB.out.setCell (Nat.le_refl _) _, Lib.hid ((hrow.out.set k _).congr (fun j hj => ?_))⟩, by simp [intOf]; omega⟩
      by_cases e : j = k
      · subst e; simp
      · rw [if_neg e]
        by_cases h2 : j < k
        · rw [if_pos h2, if_pos (by omega)]
        · rw [if_neg h2, if_neg (by omega)]
    · have hkz : ¬ (k : Int) < (n : Int) := by omega
      obtain rfl : k = n := by omega
      go_wp2_with fail
      go_ret
      refine ⟨_, rfl, ?_, pile.typ_row hrow.out _ _, hB.out⟩
      have := ints.own_of_row (row_done hrow.out) (Nat.le_refl _) hrow.out.lt (by rw [len_at]; unfold maxLen; omega)
      rw [len_at] at this
      exact this


open Classical in
noncomputable def res (x y : Int) : List (List Int) × Bool := if okSizes x y then (all (x + y).toNat, true) else ([], false)
theorem res_yes {x y : Int} (h : okSizes x y) : res x y = (all (x + y).toNat, true) := if_pos h
theorem res_no {x y : Int} (h : ¬ okSizes x y) : res x y = ([], false) := if_neg h
theorem tot (x y : Int) : rws.total (res x y).1 ≤ 1048576 := by
  by_cases h : okSizes x y
  · rw [res_yes h]; obtain ⟨⟨a1, a2⟩, b1, b2⟩ := h; exact total_upto _ _ (by omega) (two_pow (by omega))
  · rw [res_no h]; exact Nat.zero_le _







end Go.Proofs.Ytomofmmecpdalaa.plays
