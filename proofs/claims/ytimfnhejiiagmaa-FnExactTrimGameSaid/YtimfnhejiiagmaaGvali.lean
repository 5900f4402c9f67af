/- The program's IsGame tells what a valid Game is. -/
import Derived.Test.YtimfnhejiiagmaaGval
import Derived.Test.YtimfnhejiiagmaaShelf
namespace Go.Proofs.Ytimfnhejiiagmaa.gval
open Go.RowKit Go.Deep Go.Proofs.Ytimfnhejiiagmaa.base
open Go.Proofs.Ytimfnhejiiagmaa.ints (ret_int ret_no ret_yes)
open Go.Proofs.Ytimfnhejiiagmaa.rws (total len_le_total)
open Go.Proofs.Ytimfnhejiiagmaa.val (okSizes ret_b sum_take_succ)
open Go.Proofs.Ytimfnhejiiagmaa.play (within withinB withinB_yes withinB_no)

theorem foldl_max_le (l : List Int) : ∀ a : Int, a ≤ l.foldl max a ∧ ∀ x ∈ l, x ≤ l.foldl max a := by
  induction l with
  | nil => intro a; exact ⟨Int.le_refl _, fun x h => by simp at h⟩
  | cons y l ih =>
    intro a
    obtain ⟨h1, h2⟩ := ih (max a y)
    refine ⟨Int.le_trans (Int.le_max_left _ _) h1, fun x hx => ?_⟩
    rcases List.mem_cons.1 hx with rfl | hx
    · exact Int.le_trans (Int.le_max_right _ _) h1
    · exact h2 x hx
theorem foldl_max_in (l : List Int) : ∀ a : Int, l.foldl max a = a ∨ l.foldl max a ∈ l := by
  induction l with
  | nil => intro a; exact .inl rfl
  | cons y l ih =>
    intro a
    rcases ih (max a y) with h | h
    · simp only [List.foldl_cons]
      rw [h]
      rcases Int.le_total a y with g | g
      · right; rw [Int.max_eq_right g]; simp
      · left; exact Int.max_eq_left g
    · right; simp only [List.foldl_cons]; exact List.mem_cons_of_mem _ h
theorem sum_nonneg : ∀ (l : List Int), (∀ x ∈ l, 0 ≤ x) → 0 ≤ l.sum ∧ ∀ x ∈ l, x ≤ l.sum
  | [], _ => ⟨by simp, fun x h => by simp at h⟩
  | y :: l, h => by
    obtain ⟨h1, h2⟩ := sum_nonneg l (fun x hx => h x (List.mem_cons_of_mem _ hx))
    have h0 := h y (by simp)
    refine ⟨by simp; omega, fun x hx => ?_⟩
    rcases List.mem_cons.1 hx with rfl | hx
    · simp; omega
    · have := h2 x hx; simp; omega
theorem sum_pos_max (ws : List Int) (h0 : ws ≠ []) (hp : ∀ x ∈ ws, 0 ≤ x) : 0 < Lib.maxOf (ws.take ws.length) ↔ 0 < ws.sum := by
  rw [List.take_length]
  unfold Lib.maxOf
  obtain ⟨s1, s2⟩ := sum_nonneg ws hp
  constructor
  · intro h
    rcases foldl_max_in ws (ws.headD 0) with e | e
    · have : ws.headD 0 ∈ ws := by cases ws with
        | nil => exact absurd rfl h0
        | cons y l => simp
      have := s2 _ this; omega
    · have := s2 _ e; omega
  · intro h
    obtain ⟨g1, g2⟩ := foldl_max_le ws (ws.headD 0)
    rcases Int.lt_or_le 0 (ws.foldl max (ws.headD 0)) with g | g
    · exact g
    · have : ws.sum ≤ 0 := by
        have : ∀ x ∈ ws, x ≤ 0 := fun x hx => Int.le_trans (g2 x hx) g
        clear s1 s2 g1 g2 g h h0 hp
        induction ws with
        | nil => simp
        | cons y l ih =>
          have h1 := this y (by simp)
          have h2 := ih (fun x hx => this x (List.mem_cons_of_mem _ hx))
          simp; omega
      omega

set_option maxHeartbeats 2000000 in
theorem impl_any (x y : Int) (v : Value) (ws : List Int) (u : Value) (xss : List (List Int)) (w : World) (h : game.GV w v ws u xss) (hn : ws.length ≤ 1048576) (hm : total xss ≤ 1048576) :
    Calls Try.prog 77 #[.agg #[.int .i64 x, .int .i64 y, v, u]] w fun e w' => e = .returned (.bool (gameB x y ws xss)) ∧ Below w.heap.size w w' := by
  have HI := Lib.hid h.ints
  obtain ⟨B, d, q, cap', R, rfl, hcap', hmax', hB, hr⟩ := h.rows.form
  obtain ⟨A, b, o, cap, rfl, hcap, hmax, hA, hc⟩ := h.ints.form
  clear h hmax hmax' hcap hcap'
  have hlen : xss.length ≤ 1048576 := by unfold total at hm; omega
  by_cases hs : okSizes x y
  · have hmm := val.mul_small hs
    obtain ⟨hm1, hm2⟩ := hmm
    have hwr : IntKind.i64.wrap (x * y) = x * y := IntWalk.i64_in _ (by omega)
    have HSz := Lib.hid hs
    clear hs
    have HWI := Lib.hid (play.impl_within _ ws (x * y) 0 99 (w.alloc (.cells #[.int .i64 x, .int .i64 y, .slice A ws.length cap, .slice B xss.length cap'] 40)) (HI.out.below (below_al (Below.refl _ _) _)))
    by_cases hl : within (x * y) 0 99 ws
    · have HL := Lib.hid hl
      have HE := Lib.hid (withinB_yes hl)
      clear hl
      by_cases hl2 : (xss.length : Int) = x * y
      · have dl2 : ((xss.length : Int) != x * y) = false := by simp [hl2]
        have HL2 := Lib.hid hl2
        clear hl2
        go_enter Try.func77, Try.ntmps77
        go_wp2_with fail
        refine (val.isizes_yes _ _ _ HSz.out).mono ?_
        rintro e w' ⟨rfl, rfl⟩
        go_wp2_with fail
        refine HWI.out.mono ?_
        rintro e w' ⟨rfl, rfl⟩
        rw [HE.out]
        go_wp2_with fail
        go_loopw [2, 4, 36] (fun q z i wr => ∃ k : Nat, k ≤ xss.length ∧ i = .int .i64 k ∧ q = .bool false ∧ (∃ z', z = z') ∧ Hid (∀ j (h : j < xss.length), j < k → within 4 0 1 xss[j]) ∧ wr = w.alloc (.cells #[.int .i64 x, .int .i64 y, .slice A ws.length cap, .slice B xss.length cap'] 40)) (fun _ _ i _ => xss.length - (intOf i).toNat)
        case atStart => exact ⟨0, Nat.zero_le _, rfl, rfl, ⟨_, rfl⟩, fun j _ hj => by omega, rfl⟩
        case round =>
          obtain ⟨k, hk, rfl, rfl, ⟨z', rfl⟩, hH, rfl⟩ := hrel
          by_cases hlt : k < xss.length
          · have hkz : (k : Int) < (xss.length : Int) := by omega
            obtain rfl := hB (by omega)
            have g1 := (hr k hlt).1
            have gl1 := World.block_lt_of_cell? _ _ g1
            have HF := Lib.hid (play.impl_bits (R k) xss[k] 4 (w.alloc (.cells #[.int .i64 x, .int .i64 y, .slice A ws.length cap, .slice (some ⟨d, q, none⟩) xss.length cap'] 40)) ((hr k hlt).2.below (below_al (Below.refl _ _) _)))
            have HR := Lib.hid hr
            have HC := Lib.hid hc
            clear hr hB hc hA
            by_cases hw : within 4 0 1 xss[k]
            · have HW := Lib.hid hw
              have HE2 := Lib.hid (withinB_yes hw)
              clear hw
              go_wp2_with fail
              refine HF.out.mono ?_
              rintro e w' ⟨rfl, rfl⟩
              rw [HE2.out]
              go_wp2_with fail
              go_roundw
              case rel =>
                refine ⟨k + 1, by omega, by go_num, rfl, ⟨_, rfl⟩, fun j hj hj' => ?_, by first | rfl | trivial⟩
                by_cases e : j = k
                · subst e; exact HW.out
                · exact hH.out j hj (by omega)
              case measure => simp [intOf]; omega
            · have HN : Hid (¬ okGame x y ws xss) := Lib.hid (fun h => hw (h.2.2.2.2.1 k hlt))
              have HE2 := Lib.hid (withinB_no hw)
              clear hw
              go_wp2_with fail
              refine HF.out.mono ?_
              rintro e w' ⟨rfl, rfl⟩
              rw [HE2.out]
              go_wp2_with fail
              go_ret
              exact ⟨ret_b (gameB_no HN.out).symm, below_al (Below.refl _ _) _⟩
          · have hkz : ¬ (k : Int) < (xss.length : Int) := by omega
            have hw0 : 0 < ws.length := by have := HL.out.1; omega
            obtain rfl := hA hw0
            have HM := Lib.hid (Try.slices_Max_int b o ws.length cap ws (w.alloc (.cells #[.int .i64 x, .int .i64 y, .slice (some ⟨b, o, none⟩) ws.length cap, .slice B xss.length cap'] 40)) hw0 (Nat.le_refl _) (by omega) (fun j hj => by
              rw [below_cell (below_al (Below.refl w.heap.size w) _) _ _ (hc j hj)]; simp [List.getD, hj]))
            have hpm := Lib.hid (sum_pos_max ws (fun e => by subst e; simp at hw0) (fun z hz => by obtain ⟨r, hr', rfl⟩ := List.mem_iff_getElem.1 hz; exact (HL.out.2 r hr').1))
            obtain ⟨m, hm⟩ : ∃ m, Lib.maxOf (ws.take ws.length) = m := ⟨_, rfl⟩
            rw [hm] at HM hpm
            clear hm hr hB hc hA
            by_cases hp : 0 < m
            · have HN : Hid (okGame x y ws xss) := Lib.hid ⟨HSz.out, HL.out.1, HL2.out, fun j hj => HL.out.2 j hj, fun j hj => hH.out j hj (by omega), hpm.out.1 hp⟩
              have dp : decide (0 < m) = true := by simp [hp]
              go_wp2_with fail
              refine HM.out.mono ?_
              rintro e w' ⟨rfl, rfl⟩
              go_wp2_with fail
              go_ret
              exact ⟨ret_b (gameB_yes HN.out).symm, below_al (Below.refl _ _) _⟩
            · have HN : Hid (¬ okGame x y ws xss) := Lib.hid (fun h => hp (hpm.out.2 h.2.2.2.2.2))
              have dp : decide (0 < m) = false := by simp; omega
              go_wp2_with fail
              refine HM.out.mono ?_
              rintro e w' ⟨rfl, rfl⟩
              go_wp2_with fail
              go_ret
              exact ⟨ret_b (gameB_no HN.out).symm, below_al (Below.refl _ _) _⟩
      · have dl2 : ((xss.length : Int) != x * y) = true := by simp [hl2]
        have HN : Hid (¬ okGame x y ws xss) := Lib.hid (fun h => hl2 h.2.2.1)
        clear hl2 hc hr hA hB
        go_enter Try.func77, Try.ntmps77
        go_wp2_with fail
        refine (val.isizes_yes _ _ _ HSz.out).mono ?_
        rintro e w' ⟨rfl, rfl⟩
        go_wp2_with fail
        refine HWI.out.mono ?_
        rintro e w' ⟨rfl, rfl⟩
        rw [HE.out]
        go_wp2_with fail
        go_ret
        exact ⟨ret_b (gameB_no HN.out).symm, below_al (Below.refl _ _) _⟩
    · have HN : Hid (¬ okGame x y ws xss) := Lib.hid (fun h => hl ⟨h.2.1, h.2.2.2.1⟩)
      have HE := Lib.hid (withinB_no hl)
      clear hl hc hr hA hB
      go_enter Try.func77, Try.ntmps77
      go_wp2_with fail
      refine (val.isizes_yes _ _ _ HSz.out).mono ?_
      rintro e w' ⟨rfl, rfl⟩
      go_wp2_with fail
      refine HWI.out.mono ?_
      rintro e w' ⟨rfl, rfl⟩
      rw [HE.out]
      go_wp2_with fail
      go_ret
      exact ⟨ret_b (gameB_no HN.out).symm, below_al (Below.refl _ _) _⟩
  · have HN : Hid (¬ okGame x y ws xss) := Lib.hid (fun h => hs h.1)
    have HSz := Lib.hid hs
    clear hs hc hr hA hB
    go_enter Try.func77, Try.ntmps77
    go_wp2_with fail
    refine (val.isizes_no _ _ _ HSz.out).mono ?_
    rintro e w' ⟨rfl, rfl⟩
    go_wp2_with fail
    go_ret
    exact ⟨ret_b (gameB_no HN.out).symm, below_al (Below.refl _ _) _⟩



end Go.Proofs.Ytimfnhejiiagmaa.gval
