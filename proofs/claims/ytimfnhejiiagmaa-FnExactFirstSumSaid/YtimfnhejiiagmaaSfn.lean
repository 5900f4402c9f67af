/- signsOfSum of the program: a map with pairs as keys. -/
import Derived.Test.YtimfnhejiiagmaaSfm
import Derived.Test.YtimfnhejiiagmaaStep
import Derived.Maps.OwnSet
import Derived.Maps.Views
import Derived.WideKeyArr2
import Derived.Deep.RegionHeld3
namespace Go.Proofs.Ytimfnhejiiagmaa.sfn
open Go.RowKit Go.Deep Go.Proofs.Ytimfnhejiiagmaa.base
open Go.Maps (Keyed IsMap)
open Go.Proofs.Ytimfnhejiiagmaa.prt (two_cells)
open Go.Proofs.Ytimfnhejiiagmaa.sfm

theorem mput {P : Program} {o : Oper} {a : Act} {K : Act → World → Prop} {Q : Exit → Act → World → Prop} {t : TypeId} {b : Nat} {key val : Value} {wd w3 : World}
    (hrun : (Instr.mapUpdate t (.map (some b)) key val).run P wd = .ok () w3) (h : K (a.put o.dst undef) w3) :
    Oper.upon P o a K Q (((Instr.mapUpdate t (.map (some b)) key val).run P wd).andThen fun _ w' => .ok Next.skip w') := by
  rw [hrun]
  simpa [Oper.upon, Result.andThen] using h

/-! ### the pairs as keys of a map -/
theorem arrKey : WideMaps.ArrKey Try.prog 26 3 2 := ⟨Try.underlying26, by kernel_rfl, by kernel_rfl, by kernel_rfl⟩
theorem keyed : Keyed Try.prog 26 := Keyed.of_law arrKey.law
def kv (p q : Int) : Value := .agg #[.int .i64 p, .int .i64 q]
def three (p : Int) : Prop := p = 0 ∨ p = 1 ∨ p = 2
theorem kv_some : ∀ p q : Int, three p → three q → (keyOf Try.prog 26 (kv p q)).isSome = true := by
  rintro p q (rfl | rfl | rfl) (rfl | rfl | rfl) <;> kernel_rfl
noncomputable def kl (p q : Int) : Lit := (keyOf Try.prog 26 (kv p q)).getD (.bool true)
theorem kl_eq {p q : Int} (hp : three p) (hq : three q) : keyOf Try.prog 26 (kv p q) = some (kl p q) := by
  have h1 := kv_some p q hp hq
  unfold kl
  cases e : keyOf Try.prog 26 (kv p q) with
  | none => rw [e] at h1; cases h1
  | some l => rfl
theorem kl_ne {p q p' q' : Int} (hp : three p) (hq : three q) (hp' : three p') (hq' : three q') (h : ¬ (p = p' ∧ q = q')) : kl p q ≠ kl p' q' := by
  intro e
  have h1 := kl_eq hp hq
  rw [e] at h1
  have h2 := keyed.inj h1 (kl_eq hp' hq')
  unfold kv at h2
  simp at h2
  exact h ⟨h2.1, h2.2⟩
/-- the pair at place k -/
def pf (a b : Int) (k : Nat) : Int := if k < 2 then a else b
def qf (c d : Int) (k : Nat) : Int := if k % 2 = 0 then c else d
/-- the map behind k places -/
noncomputable def D (a b c d m : Int) : Nat → DataW Unit
  | 0 => .map []
  | k + 1 => (D a b c d m k).put (kl (pf a b k) (qf c d k)) (.lit (.int .i64 (sg m k)))
theorem isMap_D (a b c d m : Int) : ∀ k, IsMap (D a b c d m k)
  | 0 => ⟨[], rfl⟩
  | k + 1 => by
    obtain ⟨es, h⟩ := isMap_D a b c d m k
    unfold D
    rw [h]
    exact ⟨_, rfl⟩
set_option maxRecDepth 100000 in
theorem look {a b c d m i j : Int} (ha : three a) (hb : three b) (hc : three c) (hd : three d) (hi : three i) (hj : three j) :
    (D a b c d m 4).atKey (kl i j) (.lit (.int .i64 0)) = .lit (.int .i64 (fs a b c d m i j)) := by
  have key : ∀ (p q : Int), three p → three q → WideAt.IsKeyLit (kl p q) := fun p q hp hq => keyed.key (kl_eq hp hq)
  have step : ∀ (k : Nat) (p q : Int), pf a b k = p → qf c d k = q → three p → three q → (D a b c d m (k + 1)).atKey (kl i j) (.lit (.int .i64 0)) = if i = p ∧ j = q then .lit (.int .i64 (sg m k)) else (D a b c d m k).atKey (kl i j) (.lit (.int .i64 0)) := by
    intro k p q e1 e2 hp hq
    show ((D a b c d m k).put (kl (pf a b k) (qf c d k)) (.lit (.int .i64 (sg m k)))).atKey (kl i j) _ = _
    rw [e1, e2]
    by_cases h : i = p ∧ j = q
    · rw [if_pos h, h.1, h.2]
      exact Maps.atKey_put_same (isMap_D a b c d m k) (key p q hp hq) _ _
    · rw [if_neg h]
      exact Maps.atKey_put_other (kl_ne hi hj hp hq h) _ _
  rw [step 3 b d rfl rfl hb hd, step 2 b c rfl rfl hb hc, step 1 a d rfl rfl ha hd, step 0 a c rfl rfl ha hc]
  unfold fs
  repeat' split
  all_goals rfl
theorem owns_drew {w : World} {b n : Nat} {E : DataW Unit} {k : TypeId} {R : Value → Option (DataW Unit × List MemPlace)} (h : w.ownsMap Try.prog k R b n E) : w.drew.ownsMap Try.prog k R b n E := by
  obtain ⟨es, clock, h⟩ := h
  exact ⟨es, clock, h⟩
theorem lows22 {n : Nat} {w w' : World} {b b' : Nat} {u0 u1 u2 u3 : Value} (h0 : w.cell? ⟨b, 0, none⟩ = some u0) (h1 : w.cell? ⟨b, 1, none⟩ = some u1) (h2 : w.cell? ⟨b', 0, none⟩ = some u2) (h3 : w.cell? ⟨b', 1, none⟩ = some u3) (hb : b < n) (hb' : b' < n) (h : step.Low n w w') :
    w'.cell? ⟨b, 0, none⟩ = some u0 ∧ w'.cell? ⟨b, 1, none⟩ = some u1 ∧ w'.cell? ⟨b', 0, none⟩ = some u2 ∧ w'.cell? ⟨b', 1, none⟩ = some u3 :=
  ⟨(h _ hb).trans h0, (h _ hb).trans h1, (h _ hb').trans h2, (h _ hb').trans h3⟩
/-- what the loop keeps -/
structure Keep (w wr : World) (a b c d m : Int) (k : Nat) : Prop where
  below : Below w.heap.size w wr
  one : Blk wr w.heap.size 26 #[.int .i64 a, .int .i64 b]
  two : Blk wr (w.heap.size + 1) 26 #[.int .i64 c, .int .i64 d]
  owns : wr.ownsMap Try.prog 26 (Go.plainElem (H := Unit) Try.prog 3) (w.heap.size + 1 + 1) k (D a b c d m k)
theorem Keep.next {w wr w' : World} {a b c d m p q : Int} {k : Nat} (h : Keep w wr a b c d m k) (hp : pf a b k = p) (hq : qf c d k = q) {s : Int} (hs : sg m k = s)
    (ho : w'.ownsMap Try.prog 26 (Go.plainElem (H := Unit) Try.prog 3) (w.heap.size + 1 + 1) (k + 1) ((D a b c d m k).put (kl p q) (.lit (.int .i64 s)))) (hg : wr.drew.grownBy w' (some (w.heap.size + 1 + 1))) : Keep w w' a b c d m (k + 1) := by
  subst hp
  subst hq
  subst hs
  refine ⟨(below_dr h.below).grown hg h.below.size (fun j hj => by injection hj with hj; omega), (hg.block _ h.one.lt (fun e => by injection e with e; omega)).trans h.one, (hg.block _ h.two.lt (fun e => by injection e with e; omega)).trans h.two, ho⟩


set_option maxRecDepth 100000 in
set_option maxHeartbeats 8000000 in
theorem signs (a b c d m : Int) (ha : three a) (hb : three b) (hc : three c) (hd : three d) (w : World) :
    Calls Try.prog 206 #[.agg #[.int .i64 a, .int .i64 b], .agg #[.int .i64 c, .int .i64 d], .int .i64 m] w fun e w' => e = .returned (.map (some (w.heap.size + 1 + 1))) ∧ Keep w w' a b c d m 4 := by
  have HK : Hid (∀ p q, (p = a ∨ p = b) → (q = c ∨ q = d) → keyOf Try.prog 26 (kv p q) = some (kl p q)) := Lib.hid (by
    rintro p q (rfl | rfl) (rfl | rfl) <;> exact kl_eq (by assumption) (by assumption))
  have HV := Lib.hid (fun (s : Int) (hs : -1 ≤ s ∧ s ≤ 1) => Go.plainElem_int (H := Unit) (P := Try.prog) Try.underlying3 (WalkArith.wf_i64 (by omega) : (Lit.int .i64 s).wf = true))
  have K0 : Hid (Keep w (((w.alloc (.cells #[.int .i64 a, .int .i64 b] 26)).alloc (.cells #[.int .i64 c, .int .i64 d] 26)).alloc (.map #[] 0)) a b c d m 0) := Lib.hid ⟨below_al (below_al (below_al (Below.refl _ _) _) _) _, ((Blk.new _ _ _).alloc _).alloc _, by
    have := (Blk.new (w.alloc (.cells #[.int .i64 a, .int .i64 b] 26)) 26 #[.int .i64 c, .int .i64 d]).alloc (.map #[] 0)
    simpa using this, by
    have := World.ownsMap_made ((w.alloc (.cells #[.int .i64 a, .int .i64 b] 26)).alloc (.cells #[.int .i64 c, .int .i64 d] 26)) Try.prog 26 (Go.plainElem (H := Unit) Try.prog 3)
    rw [show ((w.alloc (.cells #[.int .i64 a, .int .i64 b] 26)).alloc (.cells #[.int .i64 c, .int .i64 d] 26)).heap.size = w.heap.size + 1 + 1 from by simp] at this
    exact this⟩
  have hmm := fun (W : World) => run_makeMap (P := Try.prog) 207 W
  clear ha hb hc hd
  go_enter Try.func206, Try.ntmps206
  go_wp2_with fail
  clear hmm
  go_loopw [8, 9, 11] (fun z8 z9 s wr => ∃ k : Nat, k ≤ 4 ∧ s = .int .i64 k ∧ (∃ z, z8 = z) ∧ (∃ z, z9 = z) ∧ Hid (Keep w wr a b c d m k)) (fun _ _ s _ => 4 - (intOf s).toNat)
  case atStart => exact ⟨0, Nat.zero_le _, rfl, ⟨_, rfl⟩, ⟨_, rfl⟩, K0⟩
  case round =>
    clear K0
    obtain ⟨k, hk, rfl, ⟨z8, rfl⟩, ⟨z9, rfl⟩, hH⟩ := hrel
    obtain ⟨wo, rfl⟩ : ∃ wo : World, wo = wr := ⟨_, rfl⟩
    have v0 : IntKind.i64.wrap 0 = 0 := by decide
    have v1 : IntKind.i64.wrap 1 = 1 := by decide
    have t0 : Int.tdiv 0 2 = 0 := by decide
    have t1 : Int.tdiv 1 2 = 0 := by decide
    have t2 : Int.tdiv 2 2 = 1 := by decide
    have t3 : Int.tdiv 3 2 = 1 := by decide
    have r0 : Int.tmod 0 2 = 0 := by decide
    have r1 : Int.tmod 1 2 = 1 := by decide
    have r2 : Int.tmod 2 2 = 0 := by decide
    have r3 : Int.tmod 3 2 = 1 := by decide
    rcases (by omega : k = 0 ∨ k = 1 ∨ k = 2 ∨ k = 3 ∨ k = 4) with rfl | rfl | rfl | rfl | rfl
    · by_cases hm : m = 0
      · subst hm
        obtain ⟨c0, c1, l0⟩ := two_cells hH.out.one
        obtain ⟨d0, d1, l1⟩ := two_cells hH.out.two
        have l2 : w.heap.size < w.heap.size + 1 + 1 := by omega
        have l3 : w.heap.size + 1 < w.heap.size + 1 + 1 := by omega
        have l4 : w.heap.size + 1 + 1 < wo.heap.size := hH.out.owns.lt
        have HO := Lib.hid (owns_drew hH.out.owns)
        obtain ⟨w3, hrun, hown, hgrow⟩ := HO.out.update keyed Try.underlying207 (by decide) (HK.out a c (by simp) (by simp)) (HV.out (-1) (by omega))
        have L3 := Lib.hid (step.Low.grown (w := wo) (n := w.heap.size + 1 + 1) (step.Low.drew (step.Low.refl _ _)) hgrow (by first | omega | (simp; omega)) (fun q hq => by injection hq with hq; omega))
        unfold kv at hrun
        have HS : Hid (sg 0 ((0 : Nat) : Int) = -1) := Lib.hid (sg_yes _)
        go_wp2_with fail
        go_region_held3 (fun w' => w'.cell? ⟨w.heap.size, 0, none⟩ = some (.int .i64 a) ∧ w'.cell? ⟨w.heap.size, 1, none⟩ = some (.int .i64 b) ∧ w'.cell? ⟨w.heap.size + 1, 0, none⟩ = some (.int .i64 c) ∧ w'.cell? ⟨w.heap.size + 1, 1, none⟩ = some (.int .i64 d))
          ((refine lows22 c0 c1 d0 d1 l2 l3 ?_; first | (with_reducible exact L3.out) | (with_reducible exact step.Low.drew (step.Low.refl _ _)) | (with_reducible exact step.Low.refl _ _)))
          (first | (refine mput hrun ?_))
        have K3 : Hid (Keep w w3 a b c d 0 1) := Lib.hid (hH.out.next rfl rfl HS.out hown hgrow)
        clear hown hgrow hrun L3 c0 c1 d0 d1
        go_wp2_with fail
        go_roundw
        case rel => exact ⟨1, by omega, by go_num, ⟨_, rfl⟩, ⟨_, rfl⟩, K3⟩
        case measure => simp [intOf]
      · have hm : ¬ (0 : Int) = m := fun e => hm e.symm
        obtain ⟨c0, c1, l0⟩ := two_cells hH.out.one
        obtain ⟨d0, d1, l1⟩ := two_cells hH.out.two
        have l2 : w.heap.size < w.heap.size + 1 + 1 := by omega
        have l3 : w.heap.size + 1 < w.heap.size + 1 + 1 := by omega
        have l4 : w.heap.size + 1 + 1 < wo.heap.size := hH.out.owns.lt
        have HO := Lib.hid (owns_drew hH.out.owns)
        obtain ⟨w3, hrun, hown, hgrow⟩ := HO.out.update keyed Try.underlying207 (by decide) (HK.out a c (by simp) (by simp)) (HV.out (1) (by omega))
        have L3 := Lib.hid (step.Low.grown (w := wo) (n := w.heap.size + 1 + 1) (step.Low.drew (step.Low.refl _ _)) hgrow (by first | omega | (simp; omega)) (fun q hq => by injection hq with hq; omega))
        unfold kv at hrun
        have HS : Hid (sg m ((0 : Nat) : Int) = 1) := Lib.hid (sg_no (by simpa using hm))
        have hm1 : ((0 : Int) == m) = false := by simpa using hm
        have hm2 : decide ((0 : Int) = m) = false := by simpa using hm
        clear hm
        go_wp2_with fail
        go_region_held3 (fun w' => w'.cell? ⟨w.heap.size, 0, none⟩ = some (.int .i64 a) ∧ w'.cell? ⟨w.heap.size, 1, none⟩ = some (.int .i64 b) ∧ w'.cell? ⟨w.heap.size + 1, 0, none⟩ = some (.int .i64 c) ∧ w'.cell? ⟨w.heap.size + 1, 1, none⟩ = some (.int .i64 d))
          ((refine lows22 c0 c1 d0 d1 l2 l3 ?_; first | (with_reducible exact L3.out) | (with_reducible exact step.Low.drew (step.Low.refl _ _)) | (with_reducible exact step.Low.refl _ _)))
          (first | (refine mput hrun ?_))
        have K3 : Hid (Keep w w3 a b c d m 1) := Lib.hid (hH.out.next rfl rfl HS.out hown hgrow)
        clear hown hgrow hrun L3 c0 c1 d0 d1
        go_wp2_with fail
        go_roundw
        case rel => exact ⟨1, by omega, by go_num, ⟨_, rfl⟩, ⟨_, rfl⟩, K3⟩
        case measure => simp [intOf]
    · by_cases hm : m = 1
      · subst hm
        obtain ⟨c0, c1, l0⟩ := two_cells hH.out.one
        obtain ⟨d0, d1, l1⟩ := two_cells hH.out.two
        have l2 : w.heap.size < w.heap.size + 1 + 1 := by omega
        have l3 : w.heap.size + 1 < w.heap.size + 1 + 1 := by omega
        have l4 : w.heap.size + 1 + 1 < wo.heap.size := hH.out.owns.lt
        have HO := Lib.hid (owns_drew hH.out.owns)
        obtain ⟨w3, hrun, hown, hgrow⟩ := HO.out.update keyed Try.underlying207 (by decide) (HK.out a d (by simp) (by simp)) (HV.out (-1) (by omega))
        have L3 := Lib.hid (step.Low.grown (w := wo) (n := w.heap.size + 1 + 1) (step.Low.drew (step.Low.refl _ _)) hgrow (by first | omega | (simp; omega)) (fun q hq => by injection hq with hq; omega))
        unfold kv at hrun
        have HS : Hid (sg 1 ((1 : Nat) : Int) = -1) := Lib.hid (sg_yes _)
        go_wp2_with fail
        go_region_held3 (fun w' => w'.cell? ⟨w.heap.size, 0, none⟩ = some (.int .i64 a) ∧ w'.cell? ⟨w.heap.size, 1, none⟩ = some (.int .i64 b) ∧ w'.cell? ⟨w.heap.size + 1, 0, none⟩ = some (.int .i64 c) ∧ w'.cell? ⟨w.heap.size + 1, 1, none⟩ = some (.int .i64 d))
          ((refine lows22 c0 c1 d0 d1 l2 l3 ?_; first | (with_reducible exact L3.out) | (with_reducible exact step.Low.drew (step.Low.refl _ _)) | (with_reducible exact step.Low.refl _ _)))
          (first | (refine mput hrun ?_))
        have K3 : Hid (Keep w w3 a b c d 1 2) := Lib.hid (hH.out.next rfl rfl HS.out hown hgrow)
        clear hown hgrow hrun L3 c0 c1 d0 d1
        go_wp2_with fail
        go_roundw
        case rel => exact ⟨2, by omega, by go_num, ⟨_, rfl⟩, ⟨_, rfl⟩, K3⟩
        case measure => simp [intOf]
      · have hm : ¬ (1 : Int) = m := fun e => hm e.symm
        obtain ⟨c0, c1, l0⟩ := two_cells hH.out.one
        obtain ⟨d0, d1, l1⟩ := two_cells hH.out.two
        have l2 : w.heap.size < w.heap.size + 1 + 1 := by omega
        have l3 : w.heap.size + 1 < w.heap.size + 1 + 1 := by omega
        have l4 : w.heap.size + 1 + 1 < wo.heap.size := hH.out.owns.lt
        have HO := Lib.hid (owns_drew hH.out.owns)
        obtain ⟨w3, hrun, hown, hgrow⟩ := HO.out.update keyed Try.underlying207 (by decide) (HK.out a d (by simp) (by simp)) (HV.out (1) (by omega))
        have L3 := Lib.hid (step.Low.grown (w := wo) (n := w.heap.size + 1 + 1) (step.Low.drew (step.Low.refl _ _)) hgrow (by first | omega | (simp; omega)) (fun q hq => by injection hq with hq; omega))
        unfold kv at hrun
        have HS : Hid (sg m ((1 : Nat) : Int) = 1) := Lib.hid (sg_no (by simpa using hm))
        have hm1 : ((1 : Int) == m) = false := by simpa using hm
        have hm2 : decide ((1 : Int) = m) = false := by simpa using hm
        clear hm
        go_wp2_with fail
        go_region_held3 (fun w' => w'.cell? ⟨w.heap.size, 0, none⟩ = some (.int .i64 a) ∧ w'.cell? ⟨w.heap.size, 1, none⟩ = some (.int .i64 b) ∧ w'.cell? ⟨w.heap.size + 1, 0, none⟩ = some (.int .i64 c) ∧ w'.cell? ⟨w.heap.size + 1, 1, none⟩ = some (.int .i64 d))
          ((refine lows22 c0 c1 d0 d1 l2 l3 ?_; first | (with_reducible exact L3.out) | (with_reducible exact step.Low.drew (step.Low.refl _ _)) | (with_reducible exact step.Low.refl _ _)))
          (first | (refine mput hrun ?_))
        have K3 : Hid (Keep w w3 a b c d m 2) := Lib.hid (hH.out.next rfl rfl HS.out hown hgrow)
        clear hown hgrow hrun L3 c0 c1 d0 d1
        go_wp2_with fail
        go_roundw
        case rel => exact ⟨2, by omega, by go_num, ⟨_, rfl⟩, ⟨_, rfl⟩, K3⟩
        case measure => simp [intOf]
    · by_cases hm : m = 2
      · subst hm
        obtain ⟨c0, c1, l0⟩ := two_cells hH.out.one
        obtain ⟨d0, d1, l1⟩ := two_cells hH.out.two
        have l2 : w.heap.size < w.heap.size + 1 + 1 := by omega
        have l3 : w.heap.size + 1 < w.heap.size + 1 + 1 := by omega
        have l4 : w.heap.size + 1 + 1 < wo.heap.size := hH.out.owns.lt
        have HO := Lib.hid (owns_drew hH.out.owns)
        obtain ⟨w3, hrun, hown, hgrow⟩ := HO.out.update keyed Try.underlying207 (by decide) (HK.out b c (by simp) (by simp)) (HV.out (-1) (by omega))
        have L3 := Lib.hid (step.Low.grown (w := wo) (n := w.heap.size + 1 + 1) (step.Low.drew (step.Low.refl _ _)) hgrow (by first | omega | (simp; omega)) (fun q hq => by injection hq with hq; omega))
        unfold kv at hrun
        have HS : Hid (sg 2 ((2 : Nat) : Int) = -1) := Lib.hid (sg_yes _)
        go_wp2_with fail
        go_region_held3 (fun w' => w'.cell? ⟨w.heap.size, 0, none⟩ = some (.int .i64 a) ∧ w'.cell? ⟨w.heap.size, 1, none⟩ = some (.int .i64 b) ∧ w'.cell? ⟨w.heap.size + 1, 0, none⟩ = some (.int .i64 c) ∧ w'.cell? ⟨w.heap.size + 1, 1, none⟩ = some (.int .i64 d))
          ((refine lows22 c0 c1 d0 d1 l2 l3 ?_; first | (with_reducible exact L3.out) | (with_reducible exact step.Low.drew (step.Low.refl _ _)) | (with_reducible exact step.Low.refl _ _)))
          (first | (refine mput hrun ?_))
        have K3 : Hid (Keep w w3 a b c d 2 3) := Lib.hid (hH.out.next rfl rfl HS.out hown hgrow)
        clear hown hgrow hrun L3 c0 c1 d0 d1
        go_wp2_with fail
        go_roundw
        case rel => exact ⟨3, by omega, by go_num, ⟨_, rfl⟩, ⟨_, rfl⟩, K3⟩
        case measure => simp [intOf]
      · have hm : ¬ (2 : Int) = m := fun e => hm e.symm
        obtain ⟨c0, c1, l0⟩ := two_cells hH.out.one
        obtain ⟨d0, d1, l1⟩ := two_cells hH.out.two
        have l2 : w.heap.size < w.heap.size + 1 + 1 := by omega
        have l3 : w.heap.size + 1 < w.heap.size + 1 + 1 := by omega
        have l4 : w.heap.size + 1 + 1 < wo.heap.size := hH.out.owns.lt
        have HO := Lib.hid (owns_drew hH.out.owns)
        obtain ⟨w3, hrun, hown, hgrow⟩ := HO.out.update keyed Try.underlying207 (by decide) (HK.out b c (by simp) (by simp)) (HV.out (1) (by omega))
        have L3 := Lib.hid (step.Low.grown (w := wo) (n := w.heap.size + 1 + 1) (step.Low.drew (step.Low.refl _ _)) hgrow (by first | omega | (simp; omega)) (fun q hq => by injection hq with hq; omega))
        unfold kv at hrun
        have HS : Hid (sg m ((2 : Nat) : Int) = 1) := Lib.hid (sg_no (by simpa using hm))
        have hm1 : ((2 : Int) == m) = false := by simpa using hm
        have hm2 : decide ((2 : Int) = m) = false := by simpa using hm
        clear hm
        go_wp2_with fail
        go_region_held3 (fun w' => w'.cell? ⟨w.heap.size, 0, none⟩ = some (.int .i64 a) ∧ w'.cell? ⟨w.heap.size, 1, none⟩ = some (.int .i64 b) ∧ w'.cell? ⟨w.heap.size + 1, 0, none⟩ = some (.int .i64 c) ∧ w'.cell? ⟨w.heap.size + 1, 1, none⟩ = some (.int .i64 d))
          ((refine lows22 c0 c1 d0 d1 l2 l3 ?_; first | (with_reducible exact L3.out) | (with_reducible exact step.Low.drew (step.Low.refl _ _)) | (with_reducible exact step.Low.refl _ _)))
          (first | (refine mput hrun ?_))
        have K3 : Hid (Keep w w3 a b c d m 3) := Lib.hid (hH.out.next rfl rfl HS.out hown hgrow)
        clear hown hgrow hrun L3 c0 c1 d0 d1
        go_wp2_with fail
        go_roundw
        case rel => exact ⟨3, by omega, by go_num, ⟨_, rfl⟩, ⟨_, rfl⟩, K3⟩
        case measure => simp [intOf]
    · by_cases hm : m = 3
      · subst hm
        obtain ⟨c0, c1, l0⟩ := two_cells hH.out.one
        obtain ⟨d0, d1, l1⟩ := two_cells hH.out.two
        have l2 : w.heap.size < w.heap.size + 1 + 1 := by omega
        have l3 : w.heap.size + 1 < w.heap.size + 1 + 1 := by omega
        have l4 : w.heap.size + 1 + 1 < wo.heap.size := hH.out.owns.lt
        have HO := Lib.hid (owns_drew hH.out.owns)
        obtain ⟨w3, hrun, hown, hgrow⟩ := HO.out.update keyed Try.underlying207 (by decide) (HK.out b d (by simp) (by simp)) (HV.out (-1) (by omega))
        have L3 := Lib.hid (step.Low.grown (w := wo) (n := w.heap.size + 1 + 1) (step.Low.drew (step.Low.refl _ _)) hgrow (by first | omega | (simp; omega)) (fun q hq => by injection hq with hq; omega))
        unfold kv at hrun
        have HS : Hid (sg 3 ((3 : Nat) : Int) = -1) := Lib.hid (sg_yes _)
        go_wp2_with fail
        go_region_held3 (fun w' => w'.cell? ⟨w.heap.size, 0, none⟩ = some (.int .i64 a) ∧ w'.cell? ⟨w.heap.size, 1, none⟩ = some (.int .i64 b) ∧ w'.cell? ⟨w.heap.size + 1, 0, none⟩ = some (.int .i64 c) ∧ w'.cell? ⟨w.heap.size + 1, 1, none⟩ = some (.int .i64 d))
          ((refine lows22 c0 c1 d0 d1 l2 l3 ?_; first | (with_reducible exact L3.out) | (with_reducible exact step.Low.drew (step.Low.refl _ _)) | (with_reducible exact step.Low.refl _ _)))
          (first | (refine mput hrun ?_))
        have K3 : Hid (Keep w w3 a b c d 3 4) := Lib.hid (hH.out.next rfl rfl HS.out hown hgrow)
        clear hown hgrow hrun L3 c0 c1 d0 d1
        go_wp2_with fail
        go_roundw
        case rel => exact ⟨4, by omega, by go_num, ⟨_, rfl⟩, ⟨_, rfl⟩, K3⟩
        case measure => simp [intOf]
      · have hm : ¬ (3 : Int) = m := fun e => hm e.symm
        obtain ⟨c0, c1, l0⟩ := two_cells hH.out.one
        obtain ⟨d0, d1, l1⟩ := two_cells hH.out.two
        have l2 : w.heap.size < w.heap.size + 1 + 1 := by omega
        have l3 : w.heap.size + 1 < w.heap.size + 1 + 1 := by omega
        have l4 : w.heap.size + 1 + 1 < wo.heap.size := hH.out.owns.lt
        have HO := Lib.hid (owns_drew hH.out.owns)
        obtain ⟨w3, hrun, hown, hgrow⟩ := HO.out.update keyed Try.underlying207 (by decide) (HK.out b d (by simp) (by simp)) (HV.out (1) (by omega))
        have L3 := Lib.hid (step.Low.grown (w := wo) (n := w.heap.size + 1 + 1) (step.Low.drew (step.Low.refl _ _)) hgrow (by first | omega | (simp; omega)) (fun q hq => by injection hq with hq; omega))
        unfold kv at hrun
        have HS : Hid (sg m ((3 : Nat) : Int) = 1) := Lib.hid (sg_no (by simpa using hm))
        have hm1 : ((3 : Int) == m) = false := by simpa using hm
        have hm2 : decide ((3 : Int) = m) = false := by simpa using hm
        clear hm
        go_wp2_with fail
        go_region_held3 (fun w' => w'.cell? ⟨w.heap.size, 0, none⟩ = some (.int .i64 a) ∧ w'.cell? ⟨w.heap.size, 1, none⟩ = some (.int .i64 b) ∧ w'.cell? ⟨w.heap.size + 1, 0, none⟩ = some (.int .i64 c) ∧ w'.cell? ⟨w.heap.size + 1, 1, none⟩ = some (.int .i64 d))
          ((refine lows22 c0 c1 d0 d1 l2 l3 ?_; first | (with_reducible exact L3.out) | (with_reducible exact step.Low.drew (step.Low.refl _ _)) | (with_reducible exact step.Low.refl _ _)))
          (first | (refine mput hrun ?_))
        have K3 : Hid (Keep w w3 a b c d m 4) := Lib.hid (hH.out.next rfl rfl HS.out hown hgrow)
        clear hown hgrow hrun L3 c0 c1 d0 d1
        go_wp2_with fail
        go_roundw
        case rel => exact ⟨4, by omega, by go_num, ⟨_, rfl⟩, ⟨_, rfl⟩, K3⟩
        case measure => simp [intOf]
    · have HE := hH
      clear hH
      go_wp2_with fail
      go_ret
      exact ⟨rfl, HE.out⟩

end Go.Proofs.Ytimfnhejiiagmaa.sfn
