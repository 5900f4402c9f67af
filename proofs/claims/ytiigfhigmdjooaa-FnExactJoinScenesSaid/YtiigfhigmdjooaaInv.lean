/- A region that draws its order, by an invariant over what has come up: one proof an operation, not one an order. It speaks of no program. -/
import Derived.Test.YtiigfhigmdjooaaStep
import Derived.Deep.RegionHeld3
namespace Go.Proofs.Ytiigfhigmdjooaa.inv
open Go Go.RowKit Go.Deep

/-- how many of the first n have not come up -/
def cnt : Nat → Array Bool → Nat
  | 0, _ => 0
  | n + 1, l => cnt n l + (if l.getD n true = true then 0 else 1)
theorem cnt_far (n i : Nat) (l : Array Bool) (h : n ≤ i) : cnt n (l.setIfInBounds i true) = cnt n l := by
  induction n with
  | zero => rfl
  | succ n ih =>
    unfold cnt
    rw [ih (by omega), getD_set_ne true (by omega : i ≠ n)]
theorem getD_set_self (l : Array Bool) (i : Nat) : (l.setIfInBounds i true).getD i true = true := by
  rcases Nat.lt_or_ge i l.size with h | h
  · simp [h]
  · simp
theorem cnt_set (n i : Nat) (l : Array Bool) (h : i < n) (hi : l.getD i true = false) : cnt n (l.setIfInBounds i true) + 1 = cnt n l := by
  induction n with
  | zero => omega
  | succ n ih =>
    unfold cnt
    by_cases e : i = n
    · subst e
      rw [cnt_far i i l (Nat.le_refl _), getD_set_self, hi]
      simp
    · have := ih (by omega)
      rw [getD_set_ne true e]
      omega
theorem cnt_pos (n i : Nat) (l : Array Bool) (h : i < n) (hi : l.getD i true = false) : 0 < cnt n l := by
  have := cnt_set n i l h hi; omega

section
variable {P : Program} {ops : Array Oper} {Q : Exit → Act → World → Prop} {md : Region.Mode} {J : Array Bool → Act → World → Prop}

theorem ready_lt {listed : Array Bool} {i : Nat} (h : i ∈ Region.ready md ops listed) : i < ops.size ∧ listed.getD i true = false := by
  obtain ⟨h0, o, ho, _⟩ := mem_ready.1 h
  refine ⟨?_, h0⟩
  rcases Nat.lt_or_ge i ops.size with h' | h'
  · exact h'
  · rw [Array.getElem?_eq_none h'] at ho; cases ho

theorem any_inv (hstep : ∀ listed a w i, J listed a w → i ∈ Region.ready md ops listed → wpOp P ops Q i (fun a' w' => J (listed.setIfInBounds i true) a' w') a w)
    (hend : ∀ listed a w, J listed a w → Region.ready md ops listed = [] → Q .normal a w) :
    ∀ (fuel : Nat) (listed : Array Bool) (a : Act) (w : World), J listed a w → cnt ops.size listed ≤ fuel → wpAny P md ops Q fuel listed a w
  | 0, listed, a, w, hJ, hc => by
    have hr : Region.ready md ops listed = [] := by
      cases e : Region.ready md ops listed with
      | nil => rfl
      | cons i l =>
        have hi : i ∈ Region.ready md ops listed := by rw [e]; simp
        have := cnt_pos _ i listed (ready_lt hi).1 (ready_lt hi).2
        omega
    exact ⟨hr, hend listed a w hJ hr⟩
  | fuel + 1, listed, a, w, hJ, hc => by
    refine ⟨fun hr => hend listed a w hJ hr, fun i hi => ?_⟩
    refine wpOp_mono (fun a' w' h' => any_inv hstep hend fuel _ a' w' h' ?_) (hstep listed a w i hJ hi)
    have := cnt_set ops.size i listed (ready_lt hi).1 (ready_lt hi).2
    omega

theorem cnt_le (n : Nat) (l : Array Bool) : cnt n l ≤ n := by
  induction n with
  | zero => exact Nat.le_refl _
  | succ n ih => unfold cnt; split <;> omega

/-- the beginning -/
theorem start {id : Nat} {a : Act} {w : World} (hm : P.follows .mixedOrders = true) (J : Array Bool → Act → World → Prop)
    (h0 : J (Array.replicate ops.size false) a w.drew)
    (hstep : ∀ listed a w i, J listed a w → i ∈ Region.ready .any ops listed → wpOp P ops Q i (fun a' w' => J (listed.setIfInBounds i true) a' w') a w)
    (hend : ∀ listed a w, J listed a w → Region.ready .any ops listed = [] → Q .normal a w) : (Code.region id ops true).wp P Q a w :=
  wp_region_any hm (any_inv hstep hend _ _ _ _ h0 (cnt_le _ _))

end

/-- what has come up, with one more -/
def upd (L : Nat → Bool) (i k : Nat) : Bool := if k = i then true else L k
theorem upd_eq (l : Array Bool) (i : Nat) (h : l.getD i true = false) : (fun k => (l.setIfInBounds i true).getD k false) = upd (fun k => l.getD k false) i := by
  funext k
  unfold upd
  by_cases e : k = i
  · subst e
    rw [if_pos rfl]
    rcases Nat.lt_or_ge k l.size with h' | h'
    · simp [h']
    · simp [Array.getElem?_eq_none h'] at h
  · rw [if_neg e, getD_set_ne false (fun e' => e e'.symm)]
theorem off (l : Array Bool) (i : Nat) (h : l.getD i true = false) : l.getD i false = false := by
  rcases Nat.lt_or_ge i l.size with h' | h'
  · simp [h'] at h ⊢; exact h
  · simp [Array.getElem?_eq_none h'] at h

/-- every operation waits for earlier ones alone -/
def back (ops : Array Oper) : Bool := (List.range ops.size).all fun i => (ops[i]?).all fun o => o.after.all fun e => decide (e.on < i)
theorem all_up {ops : Array Oper} {md : Region.Mode} {l : Array Bool} (hb : back ops = true) (hs : l.size = ops.size) (hr : Region.ready md ops l = []) : ∀ i, i < ops.size → l.getD i false = true := by
  intro i
  induction i using Nat.strongRecOn with
  | ind i ih =>
    intro hi
    cases e : l.getD i false with
    | true => rfl
    | false =>
      exfalso
      have hun : l.getD i true = false := by
        have h' : i < l.size := by omega
        simp [h'] at e ⊢; exact e
      have ho : ops[i]? = some ops[i] := Array.getElem?_eq_getElem hi
      have hm : i ∈ Region.ready md ops l := mem_ready.2 ⟨hun, _, ho, fun e he _ => by
        unfold back at hb
        have h1 := List.all_eq_true.1 hb i (List.mem_range.2 hi)
        rw [ho] at h1
        simp only [Option.all_some] at h1
        obtain ⟨k, hk, rfl⟩ := Array.mem_iff_getElem.1 he
        have h2 := (Array.all_eq_true.1 h1) k hk
        have h3 : (ops[i].after[k]).on < i := of_decide_eq_true h2
        exact ih _ h3 (by omega)⟩
      rw [hr] at hm; cases hm

/-- every operation waits for earlier ones alone, in the orders that this mode binds -/
def backm (md : Region.Mode) (ops : Array Oper) : Bool := (List.range ops.size).all fun i => (ops[i]?).all fun o => o.after.all fun e => !Region.binds md e || decide (e.on < i)
theorem all_upm {ops : Array Oper} {md : Region.Mode} {l : Array Bool} (hb : backm md ops = true) (hs : l.size = ops.size) (hr : Region.ready md ops l = []) : ∀ i, i < ops.size → l.getD i false = true := by
  intro i
  induction i using Nat.strongRecOn with
  | ind i ih =>
    intro hi
    cases e : l.getD i false with
    | true => rfl
    | false =>
      exfalso
      have hun : l.getD i true = false := by
        have h' : i < l.size := by omega
        simp [h'] at e ⊢; exact e
      have ho : ops[i]? = some ops[i] := Array.getElem?_eq_getElem hi
      have hm : i ∈ Region.ready md ops l := mem_ready.2 ⟨hun, _, ho, fun e he hbd => by
        unfold backm at hb
        have h1 := List.all_eq_true.1 hb i (List.mem_range.2 hi)
        rw [ho] at h1
        simp only [Option.all_some] at h1
        obtain ⟨k, hk, rfl⟩ := Array.mem_iff_getElem.1 he
        have h2 := (Array.all_eq_true.1 h1) k hk
        rw [hbd] at h2
        have h3 : (ops[i].after[k]).on < i := of_decide_eq_true (by simpa using h2)
        exact ih _ h3 (by omega)⟩
      rw [hr] at hm; cases hm
end Go.Proofs.Ytiigfhigmdjooaa.inv
