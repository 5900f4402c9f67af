/- IsPlain: both sides. -/
import Derived.Test.YtggodllfaggjiaaPln
namespace Go.Proofs.Ytggodllfaggjiaa.ipl
open Go.RowKit Go.Deep Go.Proofs.Ytggodllfaggjiaa.base
open Go.Proofs.Ytggodllfaggjiaa.ints (ret_int)
open Go.Proofs.Ytggodllfaggjiaa.val (ret_b)
open Go.Proofs.Ytggodllfaggjiaa.play (ret_bb)
open Go.Proofs.Ytggodllfaggjiaa.task (okTask wide taskB taskB_yes taskB_no)
open Go.Proofs.Ytggodllfaggjiaa.grid
open Go.Proofs.Ytggodllfaggjiaa.scm (rising risingB risingB_yes risingB_no ctx ctxB ctxB_yes ctxB_no rising_at)

theorem inB_of {n : Nat} {xs : List Int} (h : ctx n xs) : inB n xs := ⟨h.1, fun a ha => by have := rising_at h.2 ha; omega⟩
theorem one_less {n : Nat} (h : n ≤ 4) : IntKind.i64.wrap ((n : Int) - 1) = (n : Int) - 1 := IntWalk.i64_in _ (by omega)

open Classical in
/-- what IsPlain answers -/
noncomputable def res (xss : List (List Int)) (rs cs : List Int) : Bool × Bool :=
  if okTask xss ∧ ctx xss.length rs ∧ ctx (wide xss) cs then (if plain xss rs cs then true else false, true) else (false, false)
theorem res_no {xss : List (List Int)} {rs cs : List Int} (h : ¬ (okTask xss ∧ ctx xss.length rs ∧ ctx (wide xss) cs)) : res xss rs cs = (false, false) := if_neg h
theorem res_yes {xss : List (List Int)} {rs cs : List Int} (h : okTask xss ∧ ctx xss.length rs ∧ ctx (wide xss) cs) (p : plain xss rs cs) : res xss rs cs = (true, true) := by unfold res; rw [if_pos h, if_pos p]
theorem res_not {xss : List (List Int)} {rs cs : List Int} (h : okTask xss ∧ ctx xss.length rs ∧ ctx (wide xss) cs) (p : ¬ plain xss rs cs) : res xss rs cs = (false, true) := by unfold res; rw [if_pos h, if_neg p]
theorem first_bd {xss : List (List Int)} {rs cs : List Int} (h : okTask xss) (h1 : inB xss.length rs) (h2 : inB (wide xss) cs) : first xss rs cs = 0 ∨ first xss rs cs = 1 :=
  nn_bd h (at_lt h1 h1.1) (at_lt h2 h2.1)


set_option maxHeartbeats 1000000 in
/-- what l8Set answers of a list, of any number n -/
theorem spec_setm (n m : Int) (v : Value) (xs : List Int) (w : World) (h : Ints w v xs) (he' : IntKind.i64.wrap (n - 1) = m) :
    Calls Try.prog 70 #[v, .int .i64 n] w fun e w' => e = .returned (.bool (ctxB (m + 1) xs)) ∧ ∃ q, w' = w.drewN q := by
  have HR := Lib.hid (scv.spec_rising v xs 0 m w h)
  obtain ⟨A, b, o, cap, rfl, hcap, hmax, hA, hc⟩ := h.form
  clear h hmax hc hA hcap
  have e1 : m + 1 - 1 = m := by omega
  by_cases hl : 0 < xs.length
  · have hlz : (0 : Int) < (xs.length : Int) := by omega
    by_cases hr : rising 0 m xs
    · have HN : Hid (ctx (m + 1) xs) := Lib.hid ⟨hl, by rw [e1]; exact hr⟩
      have HQ := HR
      rw [risingB_yes hr] at HQ
      clear hr HR hl e1
      go_enter Try.func70, Try.ntmps70
      go_wp2_with fail
      refine HQ.out.mono ?_
      rintro e w' ⟨rfl, q, rfl⟩
      go_wp2_with fail
      go_ret
      exact ⟨ret_b (ctxB_yes HN.out).symm, _, rfl⟩
    · have HN : Hid (¬ ctx (m + 1) xs) := Lib.hid (fun h => hr (by have := h.2; rwa [e1] at this))
      have HQ := HR
      rw [risingB_no hr] at HQ
      clear hr HR hl e1
      go_enter Try.func70, Try.ntmps70
      go_wp2_with fail
      refine HQ.out.mono ?_
      rintro e w' ⟨rfl, q, rfl⟩
      go_wp2_with fail
      go_ret
      exact ⟨ret_b (ctxB_no HN.out).symm, _, rfl⟩
  · have HN : Hid (¬ ctx (m + 1) xs) := Lib.hid (fun h => hl h.1)
    have hlz : ¬ (0 : Int) < (xs.length : Int) := by omega
    clear hl
    go_enter Try.func70, Try.ntmps70
    go_wp2_with fail
    go_ret
    exact ⟨ret_b (ctxB_no HN.out).symm, 0, rfl⟩
theorem spec_set (v : Value) (xs : List Int) (n : Nat) (w : World) (h : Ints w v xs) (hn : n ≤ 4) :
    Calls Try.prog 70 #[v, .int .i64 n] w fun e w' => e = .returned (.bool (ctxB n xs)) ∧ ∃ q, w' = w.drewN q := by
  have := spec_setm n ((n : Int) - 1) v xs w h (one_less hn)
  rw [show (n : Int) - 1 + 1 = n by omega] at this
  exact this



set_option maxRecDepth 100000 in
set_option maxHeartbeats 1000000 in
theorem impl_side (v : Value) (xs : List Int) (n : Nat) (w : World) (h : Ints w v xs) :
    Calls Try.prog 72 #[v, .int .i64 n] w fun e w' => e = .returned (.bool (ctxB n xs)) ∧ w = w' := by
  have HR := Lib.hid (scv.impl_places v xs n w h)
  obtain ⟨va, vn, vc, rfl⟩ := h.shape
  obtain ⟨A, cap, hv⟩ := task.ints_slice h
  injection hv with e1 e2 e3
  subst e1; subst e2; subst e3
  clear h
  by_cases hl : 0 < xs.length
  · have hlz : (0 : Int) < (xs.length : Int) := by omega
    by_cases hr : rising 0 ((n : Int) - 1) xs
    · have HN : Hid (ctx n xs) := Lib.hid ⟨hl, hr⟩
      rw [risingB_yes hr] at HR
      clear hr hl
      go_enter Try.func72, Try.ntmps72
      go_wp2_with fail
      refine HR.out.mono ?_
      rintro e w' ⟨rfl, rfl⟩
      go_wp2_with fail
      go_ret
      exact ⟨ret_b (ctxB_yes HN.out).symm, rfl⟩
    · have HN : Hid (¬ ctx n xs) := Lib.hid (fun h => hr h.2)
      rw [risingB_no hr] at HR
      clear hr hl
      go_enter Try.func72, Try.ntmps72
      go_wp2_with fail
      refine HR.out.mono ?_
      rintro e w' ⟨rfl, rfl⟩
      go_wp2_with fail
      go_ret
      exact ⟨ret_b (ctxB_no HN.out).symm, rfl⟩
  · have HN : Hid (¬ ctx n xs) := Lib.hid (fun h => hl h.1)
    have hlz : ¬ (0 : Int) < (xs.length : Int) := by omega
    clear hl
    go_enter Try.func72, Try.ntmps72
    go_wp2_with fail
    go_ret
    exact ⟨ret_b (ctxB_no HN.out).symm, rfl⟩



set_option maxRecDepth 100000 in
set_option maxHeartbeats 2000000 in
theorem spec_any (v : Value) (xss : List (List Int)) (v1 : Value) (rs : List Int) (v2 : Value) (cs : List Int) (w : World) (h : IRows w v xss) (h1 : Ints w v1 rs) (h2 : Ints w v2 cs) :
    Calls Try.prog 34 #[v, v1, v2] w fun e w' => e = .returned (.tuple #[.bool (res xss rs cs).1, .bool (res xss rs cs).2]) ∧ Below w.heap.size w w' := by
  have HT := Lib.hid (task.spec_task v xss w h)
  obtain ⟨ra, rn, rc, rfl⟩ := h1.shape
  obtain ⟨ca, cn, cc, rfl⟩ := h2.shape
  have H := Lib.hid h
  have H1 := Lib.hid h1
  have H2 := Lib.hid h2
  by_cases hok : okTask xss
  · rw [taskB_yes hok] at HT
    obtain ⟨B, d, cap, rb, ro, rcc, rfl, hcells⟩ := cells h hok
    have a0 := (hcells 0 (by have := hok.1.1; omega)).1
    rw [Nat.add_zero] at a0
    have p0 : (0 : Int) < (xss.length : Int) := by have := hok.1.1; omega
    have HS1 := Lib.hid (fun n => spec_set _ rs xss.length (w.drewN n) (H1.out.keep (fun a u h => h)) hok.1.2)
    have HS2 := Lib.hid (fun n => spec_set _ cs (wide xss) (w.drewN n) (H2.out.keep (fun a u h => h)) hok.2.1.2)
    clear hcells h h1 h2
    by_cases k1 : ctx xss.length rs
    · rw [ctxB_yes k1] at HS1
      by_cases k2 : ctx (wide xss) cs
      · rw [ctxB_yes k2] at HS2
        have HP := Lib.hid (fun n => pln.spec_plain _ xss _ rs _ cs (w.drewN n) (H.out.keep (fun a u h => h)) (H1.out.keep (fun a u h => h)) (H2.out.keep (fun a u h => h)) hok (inB_of k1) (inB_of k2))
        by_cases hp : plain xss rs cs
        · rw [res_yes ⟨hok, k1, k2⟩ hp]
          rw [pln.num_yes hp] at HP
          have p1 : (0 : Int) ≤ first xss rs cs := by have := first_bd hok (inB_of k1) (inB_of k2); omega
          clear hok k1 k2 hp
          go_enter Try.func34, Try.ntmps34
          go_wp2_with fail
          refine HT.out.mono ?_
          rintro e w' ⟨rfl, n, rfl⟩
          go_wp2_with fail
          refine (HS1.out _).mono ?_
          rintro e w' ⟨rfl, q1, rfl⟩
          go_wp2_with fail
          refine (HS2.out _).mono ?_
          rintro e w' ⟨rfl, q2, rfl⟩
          go_wp2_with fail
          refine (HP.out _).mono ?_
          rintro e w' ⟨rfl, q3, rfl⟩
          go_wp2_with fail
          go_ret2
          exact ⟨rfl, below_drewN (Below.refl _ _) _⟩
        · rw [res_not ⟨hok, k1, k2⟩ hp]
          rw [pln.num_no hp] at HP
          clear hok k1 k2 hp
          go_enter Try.func34, Try.ntmps34
          go_wp2_with fail
          refine HT.out.mono ?_
          rintro e w' ⟨rfl, n, rfl⟩
          go_wp2_with fail
          refine (HS1.out _).mono ?_
          rintro e w' ⟨rfl, q1, rfl⟩
          go_wp2_with fail
          refine (HS2.out _).mono ?_
          rintro e w' ⟨rfl, q2, rfl⟩
          go_wp2_with fail
          refine (HP.out _).mono ?_
          rintro e w' ⟨rfl, q3, rfl⟩
          go_wp2_with fail
          go_ret2
          exact ⟨rfl, below_drewN (Below.refl _ _) _⟩
      · rw [ctxB_no k2] at HS2
        rw [res_no (fun h => k2 h.2.2)]
        clear hok k1 k2
        go_enter Try.func34, Try.ntmps34
        go_wp2_with fail
        refine HT.out.mono ?_
        rintro e w' ⟨rfl, n, rfl⟩
        go_wp2_with fail
        refine (HS1.out _).mono ?_
        rintro e w' ⟨rfl, q1, rfl⟩
        go_wp2_with fail
        refine (HS2.out _).mono ?_
        rintro e w' ⟨rfl, q2, rfl⟩
        go_wp2_with fail
        go_ret2
        exact ⟨rfl, below_drewN (Below.refl _ _) _⟩
    · rw [ctxB_no k1] at HS1
      rw [res_no (fun h => k1 h.2.1)]
      clear hok k1
      go_enter Try.func34, Try.ntmps34
      go_wp2_with fail
      refine HT.out.mono ?_
      rintro e w' ⟨rfl, n, rfl⟩
      go_wp2_with fail
      refine (HS1.out _).mono ?_
      rintro e w' ⟨rfl, q1, rfl⟩
      go_wp2_with fail
      go_ret2
      exact ⟨rfl, below_drewN (Below.refl _ _) _⟩
  · rw [taskB_no hok] at HT
    rw [res_no (fun h => hok h.1)]
    obtain ⟨va, vn, vc, rfl⟩ := h.shape
    clear hok h h1 h2
    go_enter Try.func34, Try.ntmps34
    go_wp2_with fail
    refine HT.out.mono ?_
    rintro e w' ⟨rfl, n, rfl⟩
    go_wp2_with fail
    go_ret2
    exact ⟨rfl, below_drewN (Below.refl _ _) _⟩



open Classical in
theorem fst_res {xss : List (List Int)} {rs cs : List Int} : (pln.res xss rs cs).2 = if plain xss rs cs then true else false := by
  by_cases h : plain xss rs cs
  · rw [pln.res_yes h, if_pos h]
  · rw [pln.res_no h, if_neg h]
set_option maxRecDepth 100000 in
set_option maxHeartbeats 2000000 in
theorem impl_any (v : Value) (xss : List (List Int)) (v1 : Value) (rs : List Int) (v2 : Value) (cs : List Int) (w : World) (h : IRows w v xss) (h1 : Ints w v1 rs) (h2 : Ints w v2 cs) :
    Calls Try.prog 36 #[v, v1, v2] w fun e w' => e = .returned (.tuple #[.bool (res xss rs cs).1, .bool (res xss rs cs).2]) ∧ Below w.heap.size w w' := by
  have HT := Lib.hid (task.impl_is v xss w h)
  obtain ⟨ra, rn, rc, rfl⟩ := h1.shape
  obtain ⟨ca, cn, cc, rfl⟩ := h2.shape
  have H := Lib.hid h
  have H1 := Lib.hid h1
  have H2 := Lib.hid h2
  by_cases hok : okTask xss
  · rw [taskB_yes hok] at HT
    obtain ⟨B, d, cap, rb, ro, rcc, rfl, hcells⟩ := cells h hok
    have a0 := (hcells 0 (by have := hok.1.1; omega)).1
    rw [Nat.add_zero] at a0
    have p0 : (0 : Int) < (xss.length : Int) := by have := hok.1.1; omega
    have HS1 := Lib.hid (impl_side _ rs xss.length w H1.out)
    have HS2 := Lib.hid (impl_side _ cs (wide xss) w H2.out)
    clear hcells h h1 h2
    by_cases k1 : ctx xss.length rs
    · rw [ctxB_yes k1] at HS1
      by_cases k2 : ctx (wide xss) cs
      · rw [ctxB_yes k2] at HS2
        have HP := Lib.hid (pln.impl_plain _ xss _ rs _ cs w H.out H1.out H2.out hok (inB_of k1) (inB_of k2))
        obtain ⟨z, hz⟩ : ∃ z, pln.res xss rs cs = z := ⟨_, rfl⟩
        have HE : Hid (res xss rs cs = (z.2, true)) := Lib.hid (by
          rw [← hz, fst_res]
          by_cases hp : plain xss rs cs
          · rw [res_yes ⟨hok, k1, k2⟩ hp, if_pos hp]
          · rw [res_not ⟨hok, k1, k2⟩ hp, if_neg hp])
        rw [hz] at HP
        rw [HE.out]
        clear hok k1 k2 hz
        go_enter Try.func36, Try.ntmps36
        go_wp2_with fail
        refine HT.out.mono ?_
        rintro e w' ⟨rfl, rfl⟩
        go_wp2_with fail
        refine HS1.out.mono ?_
        rintro e w' ⟨rfl, rfl⟩
        go_wp2_with fail
        refine HS2.out.mono ?_
        rintro e w' ⟨rfl, rfl⟩
        go_wp2_with fail
        refine HP.out.mono ?_
        rintro e w' ⟨rfl, q3, rfl⟩
        go_wp2_with fail
        go_ret2
        exact ⟨rfl, below_drewN (Below.refl _ _) _⟩
      · rw [ctxB_no k2] at HS2
        rw [res_no (fun h => k2 h.2.2)]
        clear hok k1 k2
        go_enter Try.func36, Try.ntmps36
        go_wp2_with fail
        refine HT.out.mono ?_
        rintro e w' ⟨rfl, rfl⟩
        go_wp2_with fail
        refine HS1.out.mono ?_
        rintro e w' ⟨rfl, rfl⟩
        go_wp2_with fail
        refine HS2.out.mono ?_
        rintro e w' ⟨rfl, rfl⟩
        go_wp2_with fail
        go_ret2
        exact ⟨rfl, Below.refl _ _⟩
    · rw [ctxB_no k1] at HS1
      rw [res_no (fun h => k1 h.2.1)]
      clear hok k1
      go_enter Try.func36, Try.ntmps36
      go_wp2_with fail
      refine HT.out.mono ?_
      rintro e w' ⟨rfl, rfl⟩
      go_wp2_with fail
      refine HS1.out.mono ?_
      rintro e w' ⟨rfl, rfl⟩
      go_wp2_with fail
      go_ret2
      exact ⟨rfl, Below.refl _ _⟩
  · rw [taskB_no hok] at HT
    rw [res_no (fun h => hok h.1)]
    obtain ⟨va, vn, vc, rfl⟩ := h.shape
    clear hok h h1 h2
    go_enter Try.func36, Try.ntmps36
    go_wp2_with fail
    refine HT.out.mono ?_
    rintro e w' ⟨rfl, rfl⟩
    go_wp2_with fail
    go_ret2
    exact ⟨rfl, Below.refl _ _⟩


end Go.Proofs.Ytggodllfaggjiaa.ipl
