/- TrimGame: the questions that have a weight; what sorting and compacting leaves of a list. -/
import Derived.Test.YtimfnhejiiagmaaGwon
import Derived.Lib.RowBridge
namespace Go.Proofs.Ytimfnhejiiagmaa.tgm
open Go.RowKit Go.Deep Go.Proofs.Ytimfnhejiiagmaa.base
open Go.Proofs.Ytimfnhejiiagmaa.gwon (wt)

/-- two ascending lists with the same members are one -/
theorem asc_ext : ∀ {a b : List Int}, a.Pairwise (· < ·) → b.Pairwise (· < ·) → (∀ x, x ∈ a ↔ x ∈ b) → a = b
  | [], [], _, _, _ => rfl
  | [], y :: b, _, _, h => absurd ((h y).2 (by simp)) (by simp)
  | x :: a, [], _, _, h => absurd ((h x).1 (by simp)) (by simp)
  | x :: a, y :: b, ha, hb, h => by
    rw [List.pairwise_cons] at ha hb
    have e : x = y := by
      have h1 := (h x).1 (by simp)
      have h2 := (h y).2 (by simp)
      rcases List.mem_cons.1 h1 with r | r
      · exact r
      · rcases List.mem_cons.1 h2 with q | q
        · exact q.symm
        · have := ha.1 y q; have := hb.1 x r; omega
    subst e
    have : a = b := asc_ext ha.2 hb.2 (fun z => by
      constructor
      · intro hz
        rcases List.mem_cons.1 ((h z).1 (List.mem_cons_of_mem _ hz)) with r | r
        · have := ha.1 z hz; omega
        · exact r
      · intro hz
        rcases List.mem_cons.1 ((h z).2 (List.mem_cons_of_mem _ hz)) with r | r
        · have := hb.1 z hz; omega
        · exact r)
    rw [this]
open Go.Lib in
theorem upto_is (d : Array Int) (hd : ∀ i j, i ≤ j → j < d.size → d[i]! ≤ d[j]!) : ∀ m, m ≤ d.size → (compactUpTo d m).Pairwise (· < ·) ∧ (∀ x ∈ compactUpTo d m, ∃ j, j < m ∧ x = d[j]!) ∧ ∀ j, j < m → d[j]! ∈ compactUpTo d m
  | 0, _ => ⟨by simp [compactUpTo], by simp [compactUpTo], fun j h => absurd h (Nat.not_lt_zero _)⟩
  | m + 1, hm => by
    obtain ⟨h1, h2, h3⟩ := upto_is d hd m (by omega)
    rw [compactUpTo_succ]
    by_cases hz : m = 0
    · subst hz
      rw [if_pos (keeps_lt_one d 0 (by omega))]
      have e : compactUpTo d 0 = [] := by simp [compactUpTo]
      rw [e]
      exact ⟨by simp, fun x hx => ⟨0, by omega, by simpa using hx⟩, fun j hj => by rw [show j = 0 by omega]; simp⟩
    · by_cases hk : d[m]! = d[m - 1]!
      · rw [if_neg (by rw [keeps_neg (by omega) hk]; simp), List.append_nil]
        refine ⟨h1, fun x hx => ?_, fun j hj => ?_⟩
        · obtain ⟨j, hj, e⟩ := h2 x hx; exact ⟨j, by omega, e⟩
        · by_cases e : j = m
          · subst e; rw [hk]; exact h3 _ (by omega)
          · exact h3 j (by omega)
      · rw [if_pos (keeps_pos hk)]
        have hlt : d[m - 1]! < d[m]! := by have := hd (m - 1) m (by omega) (by omega); omega
        refine ⟨?_, fun x hx => ?_, fun j hj => ?_⟩
        · rw [List.pairwise_append]
          refine ⟨h1, by simp, fun x hx y hy => ?_⟩
          obtain ⟨j, hj, e⟩ := h2 x hx
          have := hd j (m - 1) (by omega) (by omega)
          simp at hy
          subst hy e
          omega
        · rcases List.mem_append.1 hx with r | r
          · obtain ⟨j, hj, e⟩ := h2 x r; exact ⟨j, by omega, e⟩
          · exact ⟨m, by omega, by simpa using r⟩
        · by_cases e : j = m
          · subst e; simp
          · exact List.mem_append_left _ (h3 j (by omega))
theorem compact_is {zs : List Int} (h : zs.Pairwise (· ≤ ·)) : (Lib.compact zs).Pairwise (· < ·) ∧ ∀ x, x ∈ Lib.compact zs ↔ x ∈ zs := by
  have hd : ∀ i j, i ≤ j → j < zs.toArray.size → zs.toArray[i]! ≤ zs.toArray[j]! := by
    intro i j hij hj
    have hj' : j < zs.length := by simpa using hj
    by_cases e : i = j
    · subst e; exact Int.le_refl _
    · have := List.pairwise_iff_getElem.1 h i j (by omega) hj' (by omega)
      simpa [getElem!_pos, hj', show i < zs.length by omega] using this
  obtain ⟨h1, h2, h3⟩ := upto_is zs.toArray hd zs.length (by simp)
  refine ⟨h1, fun x => ⟨fun hx => ?_, fun hx => ?_⟩⟩
  · obtain ⟨j, hj, e⟩ := h2 x hx
    rw [e]
    simp [getElem!_pos, hj]
  · obtain ⟨j, hj, e⟩ := List.mem_iff_getElem.1 hx
    have := h3 j hj
    rw [← e]
    show zs[j] ∈ Lib.compactUpTo zs.toArray zs.length
    simpa [getElem!_pos, hj] using this

/-- the members of a list below n, in order -/
def U (n : Nat) (L : List Int) : List Int := ((List.range n).filter fun (q : Nat) => decide (((q : Nat) : Int) ∈ L)).map fun (q : Nat) => ((q : Nat) : Int)
theorem U_asc (n : Nat) (L : List Int) : (U n L).Pairwise (· < ·) := by
  unfold U
  rw [List.pairwise_map]
  refine List.Pairwise.filter _ ?_
  exact List.Pairwise.imp (fun h => Int.ofNat_lt.2 h) List.pairwise_lt_range
theorem U_mem {n : Nat} {L : List Int} {x : Int} : x ∈ U n L ↔ (0 ≤ x ∧ x < n) ∧ x ∈ L := by
  unfold U
  simp only [List.mem_map, List.mem_filter, List.mem_range, decide_eq_true_eq]
  constructor
  · rintro ⟨q, ⟨h1, h2⟩, rfl⟩; exact ⟨by omega, h2⟩
  · rintro ⟨⟨h0, h1⟩, h2⟩
    exact ⟨x.toNat, ⟨by omega, by rw [Int.toNat_of_nonneg h0]; exact h2⟩, Int.toNat_of_nonneg h0⟩
theorem U_len (n : Nat) (L : List Int) : (U n L).length ≤ n := by
  unfold U
  rw [List.length_map]
  exact Nat.le_trans (List.length_filter_le _ _) (by simp)
theorem U_get {n : Nat} {L : List Int} {k : Nat} (h : k < (U n L).length) : 0 ≤ (U n L).getD k 0 ∧ (U n L).getD k 0 < n := by
  have : (U n L).getD k 0 ∈ U n L := by rw [List.getD_eq_getElem?_getD, List.getElem?_eq_getElem h]; exact List.getElem_mem h
  exact (U_mem.1 this).1
theorem U_pos {n : Nat} {L : List Int} {x : Int} (h0 : 0 ≤ x) (h1 : x < n) (h : x ∈ L) : 1 ≤ (U n L).length := List.length_pos_of_mem (U_mem.2 ⟨⟨h0, h1⟩, h⟩)
theorem U_of {n : Nat} {L a : List Int} (ha : a.Pairwise (· < ·)) (hL : ∀ x ∈ L, 0 ≤ x ∧ x < n) (hm : ∀ x, x ∈ a ↔ x ∈ L) : a = U n L :=
  asc_ext ha (U_asc n L) (fun x => by rw [hm, U_mem]; exact ⟨fun h => ⟨hL x h, h⟩, fun h => h.2⟩)
theorem compact_U {n : Nat} {L zs : List Int} (hz : zs.Pairwise (· ≤ ·)) (hL : ∀ x ∈ L, 0 ≤ x ∧ x < n) (hm : ∀ x, x ∈ zs ↔ x ∈ L) : Lib.compact zs = U n L :=
  U_of (compact_is hz).1 hL (fun x => by rw [(compact_is hz).2]; exact hm x)
theorem sort_U {n : Nat} {L : List Int} (hL : ∀ x ∈ L, 0 ≤ x ∧ x < n) : Lib.compact (L.mergeSort fun x y => decide (x ≤ y)) = U n L := by
  refine compact_U ?_ hL (fun x => List.mem_mergeSort)
  have := List.pairwise_mergeSort (le := fun x y : Int => decide (x ≤ y)) (fun a b c h1 h2 => by simp at h1 h2 ⊢; omega) (fun a b => by simp; omega) L
  exact List.Pairwise.imp (fun h => by simpa using h) this

/-- a number put to its place -/
def putAt (xs : List Int) (n : Int) (k : Nat) : List Int := if xs[k]? = some n then xs else xs.take k ++ n :: xs.drop k
theorem putAt_is {xs : List Int} {n : Int} {k : Nat} (ha : xs.Pairwise (· < ·)) (hk : k ≤ xs.length) (hlo : ∀ j, j < k → xs.getD j 0 < n) (hhi : k < xs.length → n ≤ xs.getD k 0) : (putAt xs n k).Pairwise (· < ·) ∧ ∀ x, x ∈ putAt xs n k ↔ x ∈ xs ∨ x = n := by
  unfold putAt
  by_cases h : xs[k]? = some n
  · rw [if_pos h]
    exact ⟨ha, fun x => ⟨.inl, fun hx => hx.elim id (fun e => by rw [e]; exact List.mem_of_getElem? h)⟩⟩
  · rw [if_neg h]
    have hlo' : ∀ x ∈ xs.take k, x < n := by
      intro x hx
      obtain ⟨j, hj, e⟩ := List.mem_iff_getElem.1 hx
      rw [List.length_take] at hj
      have := hlo j (by omega)
      rw [List.getElem_take] at e
      rw [List.getD_eq_getElem?_getD, List.getElem?_eq_getElem (by omega)] at this
      rw [← e]; exact this
    have hhi' : ∀ x ∈ xs.drop k, n < x := by
      intro x hx
      obtain ⟨j, hj, e⟩ := List.mem_iff_getElem.1 hx
      rw [List.length_drop] at hj
      rw [List.getElem_drop] at e
      have h1 := hhi (by omega)
      rw [List.getD_eq_getElem?_getD, List.getElem?_eq_getElem (by omega)] at h1
      have h2 : xs[k]'(by omega) ≠ n := fun q => h (by rw [List.getElem?_eq_getElem (by omega), q])
      simp only [Option.getD_some] at h1
      by_cases hj0 : j = 0
      · subst hj0; rw [← e]; simp only [Nat.add_zero]; omega
      · have := List.pairwise_iff_getElem.1 ha k (k + j) (by omega) (by omega) (by omega)
        rw [← e]; omega
    refine ⟨?_, fun x => ?_⟩
    · rw [List.pairwise_append, List.pairwise_cons]
      refine ⟨ha.sublist (List.take_sublist _ _), ⟨hhi', ha.sublist (List.drop_sublist _ _)⟩, fun x hx y hy => ?_⟩
      have h1 := hlo' x hx
      rcases List.mem_cons.1 hy with r | r
      · omega
      · have := hhi' y r; omega
    · have : x ∈ xs ↔ x ∈ xs.take k ∨ x ∈ xs.drop k := by
        conv => lhs; rw [← List.take_append_drop k xs]
        exact List.mem_append
      rw [this, List.mem_append, List.mem_cons]
      constructor
      · rintro (h | h | h) <;> simp [h]
      · rintro ((h | h) | h) <;> simp [h]
theorem putAt_U {m : Nat} {L : List Int} {n : Int} {k : Nat} (hL : ∀ x ∈ L, 0 ≤ x ∧ x < m) (hn : 0 ≤ n ∧ n < m) (hk : k ≤ (U m L).length) (hlo : ∀ j, j < k → (U m L).getD j 0 < n) (hhi : k < (U m L).length → n ≤ (U m L).getD k 0) : putAt (U m L) n k = U m (L ++ [n]) := by
  have h := putAt_is (U_asc m L) hk hlo hhi
  refine U_of h.1 (fun x hx => ?_) (fun x => ?_)
  · rcases List.mem_append.1 hx with r | r
    · exact hL x r
    · simp at r; rw [r]; exact hn
  · rw [h.2, U_mem, List.mem_append]
    simp only [List.mem_singleton]
    constructor
    · rintro (⟨_, h⟩ | h)
      · exact .inl h
      · exact .inr h
    · rintro (h | h)
      · exact .inl ⟨hL x h, h⟩
      · exact .inr h

/-! ### the pairs with a weight -/
def on (ws : List Int) (t : Nat) : Bool := decide (0 < wt ws t)
def one (Y : Nat) (ws : List Int) (k : Nat) : List Int := ((List.range k).filter (on ws)).map fun t => ((t / Y : Nat) : Int)
def two (Y : Nat) (ws : List Int) (k : Nat) : List Int := ((List.range k).filter (on ws)).map fun t => ((t % Y : Nat) : Int)
theorem one_yes {Y k : Nat} {ws : List Int} (h : 0 < wt ws k) : one Y ws (k + 1) = one Y ws k ++ [((k / Y : Nat) : Int)] := by
  unfold one; rw [List.range_succ, List.filter_append]; simp [on, h]
theorem one_no {Y k : Nat} {ws : List Int} (h : ¬ 0 < wt ws k) : one Y ws (k + 1) = one Y ws k := by
  unfold one; rw [List.range_succ, List.filter_append]; simp [on, h]
theorem two_yes {Y k : Nat} {ws : List Int} (h : 0 < wt ws k) : two Y ws (k + 1) = two Y ws k ++ [((k % Y : Nat) : Int)] := by
  unfold two; rw [List.range_succ, List.filter_append]; simp [on, h]
theorem two_no {Y k : Nat} {ws : List Int} (h : ¬ 0 < wt ws k) : two Y ws (k + 1) = two Y ws k := by
  unfold two; rw [List.range_succ, List.filter_append]; simp [on, h]
theorem one_len (Y : Nat) (ws : List Int) (k : Nat) : (one Y ws k).length ≤ k := by
  unfold one; rw [List.length_map]; exact Nat.le_trans (List.length_filter_le _ _) (by simp)
theorem two_len (Y : Nat) (ws : List Int) (k : Nat) : (two Y ws k).length = (one Y ws k).length := by simp [one, two]
theorem one_lt {X Y k : Nat} {ws : List Int} (hY : 0 < Y) (hk : k ≤ X * Y) : ∀ x ∈ one Y ws k, 0 ≤ x ∧ x < (X : Int) := by
  intro x hx
  unfold one at hx
  simp only [List.mem_map, List.mem_filter, List.mem_range] at hx
  obtain ⟨t, ⟨h1, _⟩, rfl⟩ := hx
  have : t / Y < X := (Nat.div_lt_iff_lt_mul hY).2 (by omega)
  exact ⟨Int.natCast_nonneg _, Int.ofNat_lt.2 this⟩
theorem two_lt {Y k : Nat} {ws : List Int} (hY : 0 < Y) : ∀ x ∈ two Y ws k, 0 ≤ x ∧ x < (Y : Int) := by
  intro x hx
  unfold two at hx
  simp only [List.mem_map, List.mem_filter, List.mem_range] at hx
  obtain ⟨t, ⟨h1, _⟩, rfl⟩ := hx
  exact ⟨Int.natCast_nonneg _, Int.ofNat_lt.2 (Nat.mod_lt _ hY)⟩
theorem one_sorted (Y : Nat) (ws : List Int) (k : Nat) : (one Y ws k).Pairwise (· ≤ ·) := by
  unfold one
  rw [List.pairwise_map]
  refine List.Pairwise.imp (fun h => ?_) (List.Pairwise.filter _ List.pairwise_lt_range)
  exact Int.ofNat_le.2 (Nat.div_le_div_right (Nat.le_of_lt h))
theorem one_U {X Y k : Nat} {ws : List Int} (hY : 0 < Y) (hk : k ≤ X * Y) : Lib.compact (one Y ws k) = U X (one Y ws k) := compact_U (one_sorted Y ws k) (one_lt hY hk) (fun _ => Iff.rfl)
theorem two_U {Y k : Nat} {ws : List Int} (hY : 0 < Y) : Lib.compact ((two Y ws k).mergeSort fun x y => decide (x ≤ y)) = U Y (two Y ws k) := sort_U (two_lt hY)
end Go.Proofs.Ytimfnhejiiagmaa.tgm
