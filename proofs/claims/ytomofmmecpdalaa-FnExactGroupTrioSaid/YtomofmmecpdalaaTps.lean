/- PairOf of the model: the other players, the digits of a place, and the sums of a row. -/
import Derived.Test.YtomofmmecpdalaaTpa
import Derived.Test.YtomofmmecpdalaaApp
namespace Go.Proofs.Ytomofmmecpdalaa.tps
open Go.RowKit Go.Deep Go.Proofs.Ytomofmmecpdalaa.base
open Go.Proofs.Ytomofmmecpdalaa.ints (infoInt)
open Go.Proofs.Ytomofmmecpdalaa.trn (tc tc_in)
open Go.Proofs.Ytomofmmecpdalaa.tro (ins oth)
open Go.Proofs.Ytomofmmecpdalaa.trv (okTrio)

def ol (p i : Nat) : List Int := ((List.range i).filter (fun j => decide (j ≠ p))).map (fun (j : Nat) => (j : Int))
theorem ol_skip (p : Nat) : ol p (p + 1) = ol p p := by simp [ol, List.range_succ]
theorem ol_add {p i : Nat} (h : i ≠ p) : ol p (i + 1) = ol p i ++ [(i : Int)] := by simp [ol, List.range_succ, h]
theorem ol_len (p i : Nat) : (ol p i).length ≤ i := by
  unfold ol
  rw [List.length_map]
  exact Nat.le_trans (List.length_filter_le _ _) (by simp)
def fst (p : Nat) : Nat := if p = 0 then 1 else 0
def snd (p : Nat) : Nat := if p = 2 then 1 else 2
theorem ol_three {p : Nat} (h : p < 3) : ol p 3 = [(fst p : Int), (snd p : Int)] := by
  obtain rfl | rfl | rfl : p = 0 ∨ p = 1 ∨ p = 2 := by omega
  all_goals decide
/-- the place of the answers of the two others -/
def atp (p k : Nat) : Nat := if p = 0 then 2 * (k / 2 % 2) + k % 2 else if p = 1 then 2 * (k / 4 % 2) + k % 2 else 2 * (k / 4 % 2) + k / 2 % 2
theorem atp_lt (p k : Nat) : atp p k < 4 := by unfold atp; split <;> (try split) <;> omega
def acc (xss : List (List Int)) (p q a : Nat) : Nat → Int
  | 0 => 0
  | k + 1 => acc xss p q a k + (if a = atp p k then tc xss q k else 0)
theorem acc_in {wh : Int} {xss : List (List Int)} (h : okTrio wh xss) (p : Nat) {q : Nat} (hq : q < 8) (a : Nat) : ∀ k : Nat, k ≤ 8 → 0 ≤ acc xss p q a k ∧ acc xss p q a k ≤ 1000 * (k : Int)
  | 0, _ => by simp [acc]
  | k + 1, hk => by
    obtain ⟨h1, h2⟩ := acc_in h p hq a k (by omega)
    obtain ⟨h3, h4⟩ := tc_in h hq (show k < 8 by omega)
    simp only [acc]
    push_cast
    split <;> omega
theorem acc_all (xss : List (List Int)) {p : Nat} (hp : p < 3) (q : Nat) {a : Nat} (ha : a < 4) : acc xss p q a 8 = oth xss p q a := by
  obtain rfl | rfl | rfl : p = 0 ∨ p = 1 ∨ p = 2 := by omega
  all_goals
    obtain rfl | rfl | rfl | rfl : a = 0 ∨ a = 1 ∨ a = 2 ∨ a = 3 := by omega
    all_goals simp [acc, atp, oth, ins]

set_option maxRecDepth 100000 in
set_option maxHeartbeats 4000000 in
theorem others (p : Nat) (hp : p < 3) (w : World) :
    Calls Try.prog 92 #[.int .i64 (p : Int)] w fun e w' => ∃ u, e = .returned u ∧ w'.ownsRow w.heap.size 3 1 u 2 (i64s [(fst p : Int), (snd p : Int)]) ∧ Below w.heap.size w w' := by
  obtain ⟨i0, hi, hz0, hz1, hz2⟩ := info_parts infoInt
  have H3 := Lib.hid (ol_three hp)
  have O0 : Hid ((w.alloc (.cells #[] 3)).ownsRow w.heap.size 3 1 (.slice (some ⟨w.heap.size, 0, none⟩) 0 0) (ol p 0).length (i64s (ol p 0))) := Lib.hid (by
    have := World.ownsRow_made (base := w.heap.size) (e := 3) (size := 1) w #[] 0 (Nat.le_refl _) (Nat.zero_le _) rfl
    simpa [i64s, ol] using this)
  have B0 : Hid (Below w.heap.size w (w.alloc (.cells #[] 3))) := Lib.hid (below_al (Below.refl _ _) _)
  go_enter Try.func92, Try.ntmps92
  go_wp2_with fail
  generalize (w.alloc (.cells #[] 3)) = W0 at *
  go_loopw [3, 4] (fun out s wr => ∃ i : Nat, i ≤ 3 ∧ s = .int .i64 i ∧ Hid (wr.ownsRow w.heap.size 3 1 out (ol p i).length (i64s (ol p i))) ∧ Hid (Below w.heap.size w wr)) (fun _ s _ => 3 - (intOf s).toNat)
  case atStart => exact ⟨0, by omega, rfl, O0, B0⟩
  case round =>
    obtain ⟨i, hi3, rfl, hO, hB⟩ := hrel
    clear O0 B0
    obtain ⟨wo, rfl⟩ : ∃ wo : World, wo = wr := ⟨_, rfl⟩
    by_cases hlt : i < 3
    · have hiz : (i : Int) < 3 := by omega
      by_cases he : i = p
      · have dn : ((i : Int) != (p : Int)) = false := by simp [he]
        have HN : Hid (ol p (i + 1) = ol p i) := Lib.hid (by rw [he]; exact ol_skip p)
        go_wp2_with fail
        go_roundw
        case rel => exact ⟨i + 1, by omega, by go_num, Lib.hid (by rw [HN.out]; exact hO.out), hB⟩
        case measure => simp [intOf]; omega
      · have dn : ((i : Int) != (p : Int)) = true := by simp; omega
        have HN : Hid (ol p (i + 1) = ol p i ++ [(i : Int)]) := Lib.hid (ol_add he)
        have hn3 := ol_len p i
        have hsz := hB.out.size
        obtain ⟨nl, hnl⟩ : ∃ nl, nl = (ol p i).length := ⟨_, rfl⟩
        rw [← hnl] at hO hn3
        have HNL : Hid ((ol p (i + 1)).length = nl + 1) := Lib.hid (by rw [HN.out, hnl]; simp)
        clear hnl he

        go_wp2_with (at_builtin; go_must (refine wpList_append_own _ rfl (.tmp 13) (.tmp 15) 33 rfl (w.heap.size) 3 i0 (.int .i64 0) 1 8 Try.underlying33 hi hz0 hz1 hz2 rfl (by decide) _ _ _ rfl (hO.out.alloc _) ⟨wo.heap.size, 0, none⟩ 1 1 [.int .i64 (i : Int)] rfl rfl ?c1 ?c2 ?c3 ?c4 ?c5 ?_))
        try (case c1 => first | exact app.one_at _ _ _ | (intro q u hq; have h5 := app.one_at wo (.int .i64 (i : Int)) 3 q u hq; simpa using h5))
        case c2 => first | rfl | (intro u hu; simp at hu; subst hu; rfl)
        case c3 => unfold maxLen; omega
        case c4 => omega
        try (case c5 => first | omega | (simp; omega))
        intro v9 w9 hown hgrow _
        have B9 := Lib.hid ((below_al hB.out _).grown hgrow (by simp; omega) (fun j hj => by have := (hO.out.lt j hj).1; omega))
        have O9 := Lib.hid hown
        rw [app.i64s_snoc] at O9
        clear hown hgrow
        go_wp2_with fail
        go_roundw
        case rel => exact ⟨i + 1, by omega, by go_num, Lib.hid (by rw [HNL.out, HN.out]; exact O9.out), B9⟩
        case measure => simp [intOf]; omega
    · have hiz : ¬ (i : Int) < 3 := by omega
      obtain rfl : i = 3 := by omega
      have HO' := hO.out
      rw [H3.out] at HO'
      have HO := Lib.hid HO'
      clear HO'
      go_wp2_with fail
      go_ret
      exact ⟨_, rfl, HO.out, hB.out⟩


theorem digits (k : Nat) (hk : k < 8) (w : World) :
    Calls Try.prog 93 #[.int .i64 (k : Int)] w fun e w' => e = .returned (.slice (some ⟨w.heap.size, 0, none⟩) 3 3) ∧ w' = w.alloc (.cells #[.int .i64 ((k / 4 % 2 : Nat) : Int), .int .i64 ((k / 2 % 2 : Nat) : Int), .int .i64 ((k % 2 : Nat) : Int)] 3) := by
  obtain rfl | rfl | rfl | rfl | rfl | rfl | rfl | rfl : k = 0 ∨ k = 1 ∨ k = 2 ∨ k = 3 ∨ k = 4 ∨ k = 5 ∨ k = 6 ∨ k = 7 := by omega
  · have h1 : bits BinOp.and IntKind.i64 0 1 = 0 := rfl
    have h2 : bits BinOp.and IntKind.i64 0 1 = 0 := rfl
    go_enter Try.func93, Try.ntmps93
    go_wp2
    go_ret
    exact ⟨rfl, rfl⟩
  · have h1 : bits BinOp.and IntKind.i64 0 1 = 0 := rfl
    have h2 : bits BinOp.and IntKind.i64 1 1 = 1 := rfl
    go_enter Try.func93, Try.ntmps93
    go_wp2
    go_ret
    exact ⟨rfl, rfl⟩
  · have h1 : bits BinOp.and IntKind.i64 1 1 = 1 := rfl
    have h2 : bits BinOp.and IntKind.i64 2 1 = 0 := rfl
    go_enter Try.func93, Try.ntmps93
    go_wp2
    go_ret
    exact ⟨rfl, rfl⟩
  · have h1 : bits BinOp.and IntKind.i64 1 1 = 1 := rfl
    have h2 : bits BinOp.and IntKind.i64 3 1 = 1 := rfl
    go_enter Try.func93, Try.ntmps93
    go_wp2
    go_ret
    exact ⟨rfl, rfl⟩
  · have h1 : bits BinOp.and IntKind.i64 2 1 = 0 := rfl
    have h2 : bits BinOp.and IntKind.i64 4 1 = 0 := rfl
    go_enter Try.func93, Try.ntmps93
    go_wp2
    go_ret
    exact ⟨rfl, rfl⟩
  · have h1 : bits BinOp.and IntKind.i64 2 1 = 0 := rfl
    have h2 : bits BinOp.and IntKind.i64 5 1 = 1 := rfl
    go_enter Try.func93, Try.ntmps93
    go_wp2
    go_ret
    exact ⟨rfl, rfl⟩
  · have h1 : bits BinOp.and IntKind.i64 3 1 = 1 := rfl
    have h2 : bits BinOp.and IntKind.i64 6 1 = 0 := rfl
    go_enter Try.func93, Try.ntmps93
    go_wp2
    go_ret
    exact ⟨rfl, rfl⟩
  · have h1 : bits BinOp.and IntKind.i64 3 1 = 1 := rfl
    have h2 : bits BinOp.and IntKind.i64 7 1 = 1 := rfl
    go_enter Try.func93, Try.ntmps93
    go_wp2
    go_ret
    exact ⟨rfl, rfl⟩

end Go.Proofs.Ytomofmmecpdalaa.tps
