/- IsQuiet and FirstLoud of the model, IsQuiet of the program. -/
import Derived.Test.YtnjaocgciokpaabLoudb
namespace Go.Proofs.Ytnjaocgciokpaab.loud
open Go.RowKit Go.Deep Go.Proofs.Ytnjaocgciokpaab.base
open Go.Proofs.Ytnjaocgciokpaab.val (okBox okRow okSizes boxB boxB_yes boxB_no)
open Go.Proofs.Ytnjaocgciokpaab.ints (ret_int)
open Go.Proofs.Ytnjaocgciokpaab.rws (total)
open Go.Proofs.Ytnjaocgciokpaab.row (one at_ nn)


theorem l2quiet (X Y : Nat) (wh : Int) (v : Value) (xss : List (List Int)) (w : World) (h : IRows w v xss) (hok : okBox X Y wh xss) :
    Calls Try.prog 123 #[.agg #[.int .i64 (X : Int), .int .i64 (Y : Int), .int .i64 wh, v]] w fun e w' => e = .returned (.bool (quietB X Y wh xss)) ∧ Below w.heap.size w w' := by
  obtain ⟨va, vn, vc, rfl⟩ := h.shape
  have HC := Lib.hid (l2loud X Y wh _ xss _ (h.below (below_al (Below.refl _ _) (.cells #[.int .i64 (X : Int), .int .i64 (Y : Int), .int .i64 wh, .slice va vn vc] 28))) hok)
  have HOK := Lib.hid hok
  clear h hok
  go_enter Try.func123, Try.ntmps123
  go_wp2_with fail
  refine HC.out.mono ?_
  rintro e w1 ⟨a, b, rfl, hcase, hb⟩
  have B1 := Lib.hid (below_tr (below_al (Below.refl _ _) _) hb)
  have HCS := Lib.hid hcase
  clear hb HC hcase
  rcases HCS.out with ⟨hq, rfl, rfl⟩ | ⟨p, q, hf, rfl, rfl⟩
  · have HQ := Lib.hid (quietB_yes HOK.out hq)
    clear hq HCS
    go_wp2_with fail
    go_ret
    exact ⟨val.ret_b HQ.out.symm, B1.out⟩
  · have HQ := Lib.hid (quietB_loud (wh := wh) hf)
    have d : decide ((p : Int) < 0) = false := by simp
    clear hf HCS
    go_wp2_with fail
    go_ret
    exact ⟨val.ret_b HQ.out.symm, B1.out⟩






/-! ### IsQuiet of the program -/
theorem least {p : Nat → Prop} : ∀ n, p n → ∃ m, p m ∧ ∀ j, j < m → ¬ p j := by
  intro n
  induction n using Nat.strongRecOn with
  | _ n ih =>
    intro hn
    by_cases h : ∃ j, j < n ∧ p j
    · obtain ⟨j, hj, hp⟩ := h; exact ih j hj hp
    · exact ⟨n, hn, fun j hj hp => h ⟨j, hj, hp⟩⟩
theorem ex_first {xss : List (List Int)} {X Y : Nat} (h : ¬ Quiet xss X Y) : ∃ p q, First xss X Y p q := by
  by_cases h0 : ∃ j, j < X ∧ loud0 xss Y j
  · obtain ⟨j, hj, hl⟩ := h0
    obtain ⟨m, hm, hmin⟩ := least (p := fun j => loud0 xss Y j) j hl
    refine ⟨0, m, .inl ⟨rfl, ?_, hm, hmin⟩⟩
    rcases Nat.lt_or_ge j m with g | g
    · exact absurd hl (hmin j g)
    · omega
  · have h0' : ∀ j, j < X → ¬ loud0 xss Y j := fun j hj hl => h0 ⟨j, hj, hl⟩
    by_cases h1 : ∃ j, j < Y ∧ loud1 xss X Y j
    · obtain ⟨j, hj, hl⟩ := h1
      obtain ⟨m, hm, hmin⟩ := least (p := fun j => loud1 xss X Y j) j hl
      refine ⟨1, m, .inr ⟨rfl, h0', ?_, hm, hmin⟩⟩
      rcases Nat.lt_or_ge j m with g | g
      · exact absurd hl (hmin j g)
      · omega
    · exact absurd ⟨h0', fun j hj hl => h1 ⟨j, hj, hl⟩⟩ h
theorem quiet_fl {X Y : Nat} {wh : Int} {xss : List (List Int)} (h : okBox X Y wh xss) : (!(fl X Y wh xss).2.2) = quietB X Y wh xss := by
  by_cases hq : Quiet xss X Y
  · rw [fl_quiet h hq, quietB_yes h hq]; rfl
  · obtain ⟨p, q, hf⟩ := ex_first hq
    rw [fl_first h hf, quietB_loud hf]; rfl


theorem impl_quiet (x y wh : Int) (v : Value) (xss : List (List Int)) (w : World) (h : IRows w v xss) (hn : total xss ≤ 1048576) :
    Calls Try.prog 163 #[.agg #[.int .i64 x, .int .i64 y, .int .i64 wh, v]] w fun e w' => e = .returned (.tuple #[.bool (quietB x y wh xss), .bool (boxB x y wh xss)]) ∧ Below w.heap.size w w' := by
  obtain ⟨va, vn, vc, rfl⟩ := h.shape
  have H := Lib.hid h
  have K0 := Lib.hid (Blk.new w 28 #[.int .i64 x, .int .i64 y, .int .i64 wh, .slice va vn vc])
  have hr := val.impl_any x y wh _ xss _ (h.below (below_al (Below.refl _ _) (.cells #[.int .i64 x, .int .i64 y, .int .i64 wh, .slice va vn vc] 28))) hn
  clear h
  by_cases hok : okBox x y wh xss
  · obtain ⟨X, rfl⟩ : ∃ X : Nat, x = X := ⟨x.toNat, by have := hok.1.1.1; omega⟩
    obtain ⟨Y, rfl⟩ : ∃ Y : Nat, y = Y := ⟨y.toNat, by have := hok.1.2.1; omega⟩
    rw [boxB_yes hok] at hr ⊢
    have HOK := Lib.hid hok
    have HR := Lib.hid hr
    have HE := Lib.hid (quiet_fl hok)
    clear hok hr
    go_enter Try.func163, Try.ntmps163
    go_wp2_with fail
    refine HR.out.mono ?_
    rintro e w1 ⟨rfl, hb⟩
    have B1 := Lib.hid (below_tr (below_al (Below.refl _ _) _) hb)
    have K1 := Lib.hid (K0.out.below hb)
    obtain ⟨c0, c1, c2, c3, c4⟩ := four_cells K1.out
    clear hb HR K0
    go_wp2_with fail
    refine (impl_first X Y wh _ xss _ (H.out.below B1.out) hn).mono ?_
    rintro e w2 ⟨rfl, hb⟩
    have B2 := Lib.hid (below_tr B1.out hb)
    clear hb
    go_wp2_with fail
    go_ret2
    exact ⟨by rw [← HE.out]; rfl, B2.out⟩
  · rw [boxB_no hok] at hr ⊢
    rw [quietB_no hok]
    have HR := Lib.hid hr
    clear hok hr
    go_enter Try.func163, Try.ntmps163
    go_wp2_with fail
    refine HR.out.mono ?_
    rintro e w1 ⟨rfl, hb⟩
    have B1 := Lib.hid (below_tr (below_al (Below.refl _ _) _) hb)
    clear hb HR K0
    go_wp2_with fail
    go_ret2
    exact ⟨rfl, B1.out⟩


end Go.Proofs.Ytnjaocgciokpaab.loud
