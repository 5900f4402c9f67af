/- Fooling sets: the mathematics. It speaks of no function. -/
import Derived.Test.YtggodllfaggjiaaGrid
import Derived.Test.YtggodllfaggjiaaPrs
namespace Go.Proofs.Ytggodllfaggjiaa.fom
open Go.RowKit Go.Deep Go.Proofs.Ytggodllfaggjiaa.base
open Go.Proofs.Ytggodllfaggjiaa.grid (nn)

def okB (T : List (List Int)) (bit : Int) (p q : Nat × Nat) : Bool := decide (nn T p.1 q.2 ≠ bit ∨ nn T q.1 p.2 ≠ bit)
section
variable (T : List (List Int)) (bit : Int)
/-- the first of the longest lists, those that begin with earlier pairs first; R tells what goes on -/
def pick (R : List (Nat × Nat) → List (Nat × Nat)) (best : List (Nat × Nat)) (p : Nat × Nat) (rest : List (Nat × Nat)) : List (Nat × Nat) :=
  if best.length ≤ (R (rest.filter (okB T bit p))).length then p :: R (rest.filter (okB T bit p)) else best
def goL (R : List (Nat × Nat) → List (Nat × Nat)) : List (Nat × Nat) → List (Nat × Nat) → List (Nat × Nat)
  | best, [] => best
  | best, p :: rest => goL R (pick T bit R best p rest) rest
def L : Nat → List (Nat × Nat) → List (Nat × Nat)
  | 0, _ => []
  | f + 1, ps => goL T bit (L f) [] ps
def Lf (ps : List (Nat × Nat)) : List (Nat × Nat) := L T bit 16 ps
end
variable {T : List (List Int)} {bit : Int}
theorem filt_le (p : Nat × Nat) (rest : List (Nat × Nat)) : (rest.filter (okB T bit p)).length ≤ rest.length := List.length_filter_le _ _
theorem goL_congr {R R' : List (Nat × Nat) → List (Nat × Nat)} : ∀ (ps best : List (Nat × Nat)), (∀ qs, qs.length < ps.length → R qs = R' qs) → goL T bit R best ps = goL T bit R' best ps := by
  intro ps
  induction ps with
  | nil => intro best _; rfl
  | cons p rest ih =>
    intro best h
    have e : R (rest.filter (okB T bit p)) = R' (rest.filter (okB T bit p)) := h _ (by have := filt_le (T := T) (bit := bit) p rest; simp; omega)
    show goL T bit R (pick T bit R best p rest) rest = goL T bit R' (pick T bit R' best p rest) rest
    have e2 : pick T bit R best p rest = pick T bit R' best p rest := by unfold pick; rw [e]
    rw [e2]
    exact ih _ (fun qs hq => h qs (by simp; omega))
theorem L_nil (f : Nat) : L T bit f [] = [] := by cases f <;> rfl
theorem L_fuel : ∀ (f g : Nat) (ps : List (Nat × Nat)), ps.length ≤ f → ps.length ≤ g → L T bit f ps = L T bit g ps := by
  intro f
  induction f with
  | zero => intro g ps h _; obtain rfl : ps = [] := List.eq_nil_of_length_eq_zero (by omega); rw [L_nil, L_nil]
  | succ f ih =>
    intro g ps h1 h2
    cases g with
    | zero => obtain rfl : ps = [] := List.eq_nil_of_length_eq_zero (by omega); rw [L_nil, L_nil]
    | succ g => exact goL_congr ps [] (fun qs hq => ih g qs (by omega) (by omega))
theorem Lf_eq {ps : List (Nat × Nat)} (h : ps.length ≤ 16) : Lf T bit ps = goL T bit (Lf T bit) [] ps :=
  goL_congr ps [] (fun qs hq => L_fuel 15 16 qs (by omega) (by omega))
theorem goL_len {R : List (Nat × Nat) → List (Nat × Nat)} : ∀ (ps best : List (Nat × Nat)) (b : Nat), (∀ qs, qs.length < ps.length → (R qs).length ≤ qs.length) → best.length ≤ b → ps.length ≤ b → (goL T bit R best ps).length ≤ b := by
  intro ps
  induction ps with
  | nil => intro best b _ h _; exact h
  | cons p rest ih =>
    intro best b h hb hp
    simp at hp
    refine ih _ b (fun qs hq => h qs (by simp; omega)) ?_ (by omega)
    unfold pick
    split
    · have h1 := h (rest.filter (okB T bit p)) (by have := filt_le (T := T) (bit := bit) p rest; simp; omega)
      have h2 := filt_le (T := T) (bit := bit) p rest
      simp; omega
    · exact hb
theorem L_len : ∀ (f : Nat) (ps : List (Nat × Nat)), (L T bit f ps).length ≤ ps.length := by
  intro f
  induction f with
  | zero => intro ps; exact Nat.zero_le _
  | succ f ih => intro ps; exact goL_len ps [] ps.length (fun qs _ => ih qs) (Nat.zero_le _) (Nat.le_refl _)
theorem Lf_len (ps : List (Nat × Nat)) : (Lf T bit ps).length ≤ ps.length := L_len 16 ps

/-- the pairs in memory -/
def enc (ps : List (Nat × Nat)) : List (Int × Int) := ps.map fun p => ((p.1 : Int), (p.2 : Int))
theorem len_enc (ps : List (Nat × Nat)) : (enc ps).length = ps.length := by simp [enc]
theorem enc_at (ps : List (Nat × Nat)) (k : Nat) (h : k < ps.length) : (enc ps)[k]'(by rw [len_enc]; exact h) = ((ps[k].1 : Int), (ps[k].2 : Int)) := by simp [enc]
theorem enc_snoc (ps : List (Nat × Nat)) (p : Nat × Nat) : enc (ps ++ [p]) = enc ps ++ [((p.1 : Int), (p.2 : Int))] := by simp [enc]
theorem enc_cons (ps : List (Nat × Nat)) (p : Nat × Nat) : enc (p :: ps) = ((p.1 : Int), (p.2 : Int)) :: enc ps := by simp [enc]

/-! ### the candidates from a place on -/
def cell (m a : Nat) : Nat × Nat := (a / m, a % m)
def fitsB (T : List (List Int)) (bit : Int) (begun : List (Nat × Nat)) (p : Nat × Nat) : Bool := decide (nn T p.1 p.2 = bit) && begun.all (fun b => okB T bit b p)
def cands (T : List (List Int)) (bit : Int) (m N : Nat) (begun : List (Nat × Nat)) (a : Nat) : List (Nat × Nat) := ((List.range' a (N - a)).map (cell m)).filter (fitsB T bit begun)
theorem cands_len (m N : Nat) (begun : List (Nat × Nat)) (a : Nat) : (cands T bit m N begun a).length ≤ N - a := by
  have := List.length_filter_le (fitsB T bit begun) ((List.range' a (N - a)).map (cell m))
  simpa [cands] using this
theorem cands_end {m N : Nat} {begun : List (Nat × Nat)} {a : Nat} (h : N ≤ a) : cands T bit m N begun a = [] := by
  unfold cands; rw [show N - a = 0 by omega]; rfl
theorem cands_yes {m N : Nat} {begun : List (Nat × Nat)} {a : Nat} (h : a < N) (hf : fitsB T bit begun (cell m a) = true) : cands T bit m N begun a = cell m a :: cands T bit m N begun (a + 1) := by
  unfold cands
  rw [show N - a = (N - (a + 1)) + 1 by omega, List.range'_succ, List.map_cons, List.filter_cons, if_pos hf]
theorem cands_no {m N : Nat} {begun : List (Nat × Nat)} {a : Nat} (h : a < N) (hf : fitsB T bit begun (cell m a) = false) : cands T bit m N begun a = cands T bit m N begun (a + 1) := by
  unfold cands
  rw [show N - a = (N - (a + 1)) + 1 by omega, List.range'_succ, List.map_cons, List.filter_cons, if_neg (by rw [hf]; simp)]
theorem cands_snoc {m N : Nat} {begun : List (Nat × Nat)} {p : Nat × Nat} {a : Nat} : cands T bit m N (begun ++ [p]) a = (cands T bit m N begun a).filter (okB T bit p) := by
  unfold cands
  rw [List.filter_filter]
  refine List.filter_congr (fun q _ => ?_)
  unfold fitsB
  rw [List.all_append]
  cases decide (nn T q.1 q.2 = bit) <;> cases begun.all (fun b => okB T bit b q) <;> simp

/-- where the model's loop stands at place a: B is the best so far, without what was begun -/
def St (T : List (List Int)) (bit : Int) (m N : Nat) (begun : List (Nat × Nat)) (start a : Nat) (B : List (Nat × Nat)) : Prop := goL T bit (Lf T bit) B (cands T bit m N begun a) = Lf T bit (cands T bit m N begun start)
theorem St.start {m N : Nat} {begun : List (Nat × Nat)} {start : Nat} (h : N ≤ 16) : St T bit m N begun start start [] :=
  (Lf_eq (by have := cands_len (T := T) (bit := bit) m N begun start; omega)).symm
theorem St.skip {m N : Nat} {begun : List (Nat × Nat)} {start a : Nat} {B : List (Nat × Nat)} (h : St T bit m N begun start a B) (ha : a < N) (hf : fitsB T bit begun (cell m a) = false) : St T bit m N begun start (a + 1) B := by
  unfold St at h ⊢; rw [cands_no ha hf] at h; exact h
theorem St.take {m N : Nat} {begun : List (Nat × Nat)} {start a : Nat} {B : List (Nat × Nat)} (h : St T bit m N begun start a B) (ha : a < N) (hf : fitsB T bit begun (cell m a) = true) :
    St T bit m N begun start (a + 1) (if B.length ≤ (Lf T bit (cands T bit m N (begun ++ [cell m a]) (a + 1))).length then cell m a :: Lf T bit (cands T bit m N (begun ++ [cell m a]) (a + 1)) else B) := by
  unfold St at h ⊢
  rw [cands_yes ha hf] at h
  rw [cands_snoc]
  exact h
theorem St.done {m N : Nat} {begun : List (Nat × Nat)} {start a : Nat} {B : List (Nat × Nat)} (h : St T bit m N begun start a B) (ha : N ≤ a) : B = Lf T bit (cands T bit m N begun start) := by
  unfold St at h; rw [cands_end ha] at h; exact h
theorem B_len {m N : Nat} {begun : List (Nat × Nat)} {a : Nat} : (Lf T bit (cands T bit m N begun a)).length ≤ N - a := Nat.le_trans (Lf_len _) (cands_len m N begun a)

end Go.Proofs.Ytggodllfaggjiaa.fom
