/- Eight rows of eight numbers under way: an outer slice whose rows are made and stored one after another, in any order. -/
import Derived.Test.YtomofmmecpdalaaMake
import Derived.Test.YtomofmmecpdalaaTrn
namespace Go.Proofs.Ytomofmmecpdalaa.grd
open Go.RowKit Go.Deep Go.Proofs.Ytomofmmecpdalaa.base
open Go.Proofs.Ytomofmmecpdalaa.trn (tc shape)

def outer (on : Nat → Bool) (gs : Nat → Nat) (i : Nat) : Value := if on i = true then .slice (some ⟨gs i, 0, none⟩) 8 8 else .slice none 0 0
/-- the rows that are `on` lie in blocks of their own, behind the outer slice's block R -/
structure Grd (w W : World) (R : Nat) (on : Nat → Bool) (gs : Nat → Nat) (F : Nat → Nat → Int) : Prop where
  below : Below w.heap.size w W
  rge : w.heap.size ≤ R
  out : W.rowIs R 33 8 (outer on gs)
  row : ∀ i, i < 8 → on i = true → W.rowIs (gs i) 3 8 (fun j => .int .i64 (F i j))
  ge : ∀ i, i < 8 → on i = true → R < gs i
  inj : ∀ i j, i < 8 → j < 8 → on i = true → on j = true → i ≠ j → gs i ≠ gs j
theorem Grd.keep {w W W' : World} {R : Nat} {on : Nat → Bool} {gs : Nat → Nat} {F : Nat → Nat → Int} (h : Grd w W R on gs F) (hb : Below W.heap.size W W') : Grd w W' R on gs F :=
  ⟨below_tr h.below hb, h.rge, h.out.of_block (hb.block _ h.out.lt), fun i hi ho => (h.row i hi ho).of_block (hb.block _ (h.row i hi ho).lt), h.ge, h.inj⟩
theorem Grd.congr {w W : World} {R : Nat} {on : Nat → Bool} {gs : Nat → Nat} {F F' : Nat → Nat → Int} (h : Grd w W R on gs F) (e : ∀ i j, i < 8 → j < 8 → on i = true → F i j = F' i j) : Grd w W R on gs F' :=
  ⟨h.below, h.rge, h.out, fun i hi ho => (h.row i hi ho).congr (fun j hj => by rw [e i j hi hj ho]), h.ge, h.inj⟩
def upd (on : Nat → Bool) (q : Nat) : Nat → Bool := fun i => if i = q then true else on i
/-- a row in the block g, made behind all the others, is put at q -/
theorem Grd.put {w W : World} {R q g : Nat} {on : Nat → Bool} {gs : Nat → Nat} {F F' : Nat → Nat → Int} (h : Grd w W R on gs F) (hq : q < 8) (hoff : on q = false)
    (hr : W.rowIs g 3 8 (fun j => .int .i64 (F' q j))) (hg : R < g) (hne : ∀ i, i < 8 → on i = true → gs i ≠ g) (e : ∀ i j, i < 8 → j < 8 → on i = true → F i j = F' i j) :
    Grd w (W.setCell ⟨R, q, none⟩ (.slice (some ⟨g, 0, none⟩) 8 8)) R (upd on q) (fun i => if i = q then g else gs i) F' := by
  have hb : Below R W (W.setCell ⟨R, q, none⟩ (.slice (some ⟨g, 0, none⟩) 8 8)) := Below.setCell (Below.refl _ _) (show R ≤ (⟨R, q, none⟩ : Addr).block from Nat.le_refl _) _
  refine ⟨h.below.trans (hb.mono h.rge), h.rge, (h.out.set q _).congr (fun i _ => ?_), fun i hi ho => ?_, fun i hi ho => ?_, fun i j hi hj hoi hoj hij => ?_⟩
  · unfold outer upd
    by_cases e : i = q <;> simp [e]
  · by_cases e2 : i = q
    · subst e2
      simp only [if_true]
      exact hr.setOther (by show g ≠ R; omega) _
    · have ho' : on i = true := by simpa [upd, e2] using ho
      simp only [e2, if_false]
      have := h.ge i hi ho'
      exact ((h.row i hi ho').congr (fun j hj => by rw [e i j hi hj ho'])).setOther (by show gs i ≠ R; omega) _
  · by_cases e2 : i = q
    · subst e2; simpa using hg
    · have ho' : on i = true := by simpa [upd, e2] using ho
      simp only [e2, if_false]
      exact h.ge i hi ho'
  · by_cases e2 : i = q
    · subst e2
      have hji : j ≠ i := fun e => hij e.symm
      have ho' : on j = true := by simpa [upd, hji] using hoj
      simp only [if_true, hji, if_false]
      exact (hne j hj ho').symm
    · have ho' : on i = true := by simpa [upd, e2] using hoi
      simp only [e2, if_false]
      by_cases e3 : j = q
      · subst e3; simp only [if_true]; exact hne i hi ho'
      · have ho2 : on j = true := by simpa [upd, e3] using hoj
        simp only [e3, if_false]
        exact h.inj i j hi hj ho' ho2 hij
/-- a number is stored into the row at q -/
theorem Grd.store {w W : World} {R q c : Nat} {on : Nat → Bool} {gs : Nat → Nat} {F F' : Nat → Nat → Int} (h : Grd w W R on gs F) (hq : q < 8) (hon : on q = true) (z : Int)
    (e : ∀ i j, i < 8 → j < 8 → on i = true → F' i j = if i = q ∧ j = c then z else F i j) :
    Grd w (W.setCell ⟨gs q, c, none⟩ (.int .i64 z)) R on gs F' := by
  have hg := h.ge q hq hon
  have hb : Below (gs q) W (W.setCell ⟨gs q, c, none⟩ (.int .i64 z)) := Below.setCell (Below.refl _ _) (show gs q ≤ (⟨gs q, c, none⟩ : Addr).block from Nat.le_refl _) _
  refine ⟨h.below.trans (hb.mono (by have := h.rge; omega)), h.rge, h.out.setOther (by show R ≠ gs q; omega) _, fun i hi ho => ?_, h.ge, h.inj⟩
  by_cases e2 : i = q
  · subst e2
    exact ((h.row i hi ho).set c (.int .i64 z)).congr (fun j hj => by rw [e i j hi hj ho]; by_cases e3 : j = c <;> simp [e3])
  · exact ((h.row i hi ho).congr (g := fun j => .int .i64 (F' i j)) (fun j hj => by rw [e i j hi hj ho]; simp [e2])).setOther (by show gs i ≠ gs q; exact h.inj i q hi hq ho hon e2) _
def rows8 (F : Nat → Nat → Int) : List (List Int) := (List.range 8).map fun q => (List.range 8).map fun k => F q k
theorem rows8_congr {F F' : Nat → Nat → Int} (e : ∀ i j, i < 8 → j < 8 → F i j = F' i j) : rows8 F = rows8 F' := by
  unfold rows8
  refine List.map_congr_left (fun q hq => List.map_congr_left (fun k hk => ?_))
  rw [List.mem_range] at hq hk
  exact e q k hq hk
theorem len_rows8 (F : Nat → Nat → Int) : (rows8 F).length = 8 := by simp [rows8]
theorem tot_rows8 (F : Nat → Nat → Int) : rws.total (rows8 F) ≤ 1048576 := by
  simp [rows8, rws.total, List.range, List.range.loop]
theorem at_rows8 (F : Nat → Nat → Int) {q : Nat} (hq : q < (rows8 F).length) : (rows8 F)[q] = (List.range 8).map fun k => F q k := by simp [rows8]
theorem Grd.done {w W : World} {R : Nat} {on : Nat → Bool} {gs : Nat → Nat} {F : Nat → Nat → Int} (h : Grd w W R on gs F) (hon : ∀ i, i < 8 → on i = true) : OwnRows W R W.heap.size (.slice (some ⟨R, 0, none⟩) 8 8) (rows8 F) := by
  have hr : ∀ i, i < 8 → W.rowIs (gs i) 3 8 (fun j => .int .i64 (F i j)) := fun i hi => h.row i hi (hon i hi)
  have hg : ∀ i, i < 8 → R < gs i := fun i hi => h.ge i hi (hon i hi)
  have hout : ∀ i, i < 8 → W.cell? ⟨R, i, none⟩ = some (.slice (some ⟨gs i, 0, none⟩) 8 8) := fun i hi => by
    have := h.out.cell hi
    simpa [outer, hon i hi] using this
  have vals : ∀ u ∈ (List.range 8).map (fun i => Value.slice (some ⟨gs i, 0, none⟩) 8 8), ∃ i, i < 8 ∧ u = .slice (some ⟨gs i, 0, none⟩) 8 8 := fun u hu => by
    obtain ⟨i, hi, rfl⟩ := List.mem_map.1 hu
    exact ⟨i, List.mem_range.1 hi, rfl⟩
  have inr : ∀ {i : Nat} {p : Addr}, In (.slice (some ⟨gs i, 0, none⟩) 8 8) p → p.block = gs i ∧ p.spot = none := by
    rintro i p ⟨b, o, len, cap, e, hb, hs, _⟩
    injection e with e
    injection e with e
    injection e with e
    exact ⟨by rw [hb, ← e], hs⟩
  have inR : ∀ {p : Addr}, In (.slice (some ⟨R, 0, none⟩) 8 8) p → p.block = R := by
    rintro p ⟨b, o, len, cap, e, hb, hs, _⟩
    injection e with e
    injection e with e
    injection e with e
    rw [hb, ← e]
  refine ⟨(List.range 8).map (fun i => Value.slice (some ⟨gs i, 0, none⟩) 8 8), ⟨some ⟨R, 0, none⟩, 8, by simp, by simp, by simp [maxLen], fun k u hu => ?_⟩, by simp [rows8], fun r hr' => ?_, fun p hp => ?_, fun p hp => ?_, fun u hu p hp => ?_, fun u hu p hp => ?_, fun u hu p hp => ?_, fun u hu p hp hq => ?_, fun r s a b hne ha hb p hp hq => ?_⟩
  · have hk : k < 8 := by
      rcases Nat.lt_or_ge k 8 with g | g
      · exact g
      · rw [List.getElem?_eq_none (by simpa using g)] at hu; cases hu
    refine ⟨R, 0, rfl, ?_⟩
    rw [Nat.zero_add, hout k hk, ← hu]
    simp [hk]
  · rw [len_rows8] at hr'
    refine ⟨.slice (some ⟨gs r, 0, none⟩) 8 8, by simp [hr'], ?_⟩
    have e : (rows8 F)[r]'(by rw [len_rows8]; exact hr') = (List.range 8).map fun k => F r k := at_rows8 F _
    rw [e]
    have hrow : W.rowIs (gs r) 3 ((List.range 8).map fun k => F r k).length (fun j => .int .i64 (((List.range 8).map fun k => F r k).getD j 0)) := by
      have := (hr r hr').congr (g := fun j => .int .i64 (((List.range 8).map fun k => F r k).getD j 0)) (fun j hj => by simp [List.getD, hj])
      simpa using this
    have := ints.own_of_row (w := W) (B := 0) (T := W.heap.size) hrow (Nat.zero_le _) hrow.lt (by simp [maxLen])
    simpa using this.ints
  · rw [inR hp]; exact Nat.le_refl _
  · rw [inR hp]; exact h.out.lt
  · obtain ⟨i, hi, rfl⟩ := vals u hu
    have := hg i hi
    have := h.rge
    have := (inr hp).1
    omega
  · obtain ⟨i, hi, rfl⟩ := vals u hu
    have := (hr i hi).lt
    have := (inr hp).1
    omega
  · obtain ⟨i, hi, rfl⟩ := vals u hu
    obtain ⟨pb, po, ps⟩ := p
    obtain ⟨e1, e2⟩ := inr hp
    simp at e1 e2
    subst e1; subst e2
    exact (hr i hi).frozen po
  · obtain ⟨i, hi, rfl⟩ := vals u hu
    have := hg i hi
    have := (inr hp).1
    have := inR hq
    omega
  · have lt : ∀ (r : Nat) (a : Value), ((List.range 8).map (fun i => Value.slice (some ⟨gs i, 0, none⟩) 8 8))[r]? = some a → r < 8 ∧ a = .slice (some ⟨gs r, 0, none⟩) 8 8 := fun r a ha => by
      have hr8 : r < 8 := by
        rcases Nat.lt_or_ge r 8 with g | g
        · exact g
        · rw [List.getElem?_eq_none (by simpa using g)] at ha; cases ha
      refine ⟨hr8, ?_⟩
      simp [hr8] at ha
      exact ha.symm
    obtain ⟨h1, rfl⟩ := lt r a ha
    obtain ⟨h2, rfl⟩ := lt s b hb
    have e1 := (inr hp).1
    have e2 := (inr hq).1
    exact h.inj r s h1 h2 (hon r h1) (hon s h2) hne (by omega)
/-- what is filled so far: whole rows up to q, and c numbers of the row q -/
def Fq (N : Nat → Nat → Int) (q c i j : Nat) : Int := if i < q then N i j else if i = q ∧ j < c then N i j else 0
def up (q : Nat) : Nat → Bool := fun i => decide (i < q)
theorem upd_up (q : Nat) : upd (up q) q = up (q + 1) := by
  funext i
  unfold upd up
  by_cases e : i = q
  · subst e; simp
  · have : (i < q) = (i < q + 1) := by apply propext; omega
    simp [e, this]
theorem Fq_zero (N : Nat → Nat → Int) (q j : Nat) : Fq N q 0 q j = 0 := by simp [Fq]
theorem Fq_step (N : Nat → Nat → Int) (q c i j : Nat) : Fq N q (c + 1) i j = if i = q ∧ j = c then N q c else Fq N q c i j := by
  unfold Fq
  by_cases h : i < q
  · have : i ≠ q := by omega
    simp [h, this]
  · by_cases e : i = q
    · subst e
      by_cases e2 : j = c
      · subst e2; simp
      · have : (j < c + 1) = (j < c) := by apply propext; omega
        simp [e2, this]
    · simp [h, e]
theorem Fq_next (N : Nat → Nat → Int) (q i j : Nat) (hj : j < 8) (hi : i < q + 1) : Fq N q 8 i j = Fq N (q + 1) 0 i j := by
  unfold Fq
  by_cases h : i < q
  · have : i < q + 1 := by omega
    simp [h, this]
  · have : i = q := by omega
    subst this
    simp [hj]
theorem Fq_all (N : Nat → Nat → Int) (i j : Nat) (hi : i < 8) : Fq N 8 0 i j = N i j := by simp [Fq, hi]
end Go.Proofs.Ytomofmmecpdalaa.grd
