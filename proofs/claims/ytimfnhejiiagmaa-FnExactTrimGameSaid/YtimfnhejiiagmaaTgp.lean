/- TrimGame of the program. -/
import Derived.Test.YtimfnhejiiagmaaTgo
import Derived.Test.YtimfnhejiiagmaaAskq
import Derived.Test.YtimfnhejiiagmaaGscore
import Derived.Test.YtimfnhejiiagmaaGvali
import Derived.Test.YtimfnhejiiagmaaMake
namespace Go.Proofs.Ytimfnhejiiagmaa.tgp
open Go.RowKit Go.Deep Go.Proofs.Ytimfnhejiiagmaa.base
open Go.Proofs.Ytimfnhejiiagmaa.ints (ret_int infoInt)
open Go.Proofs.Ytimfnhejiiagmaa.rws (total)
open Go.Proofs.Ytimfnhejiiagmaa.gval (okGame gameB gameB_yes gameB_no)
open Go.Proofs.Ytimfnhejiiagmaa.gwon (wt wt_bd)
open Go.Proofs.Ytimfnhejiiagmaa.gask (wts len_wts N okAsk)
open Go.Proofs.Ytimfnhejiiagmaa.tgm Go.Proofs.Ytimfnhejiiagmaa.tgo

/-- the questions that are left -/
def fs (X Y : Nat) (ws : List Int) : List Int := U X (tgm.one Y ws (X * Y))
def ss (X Y : Nat) (ws : List Int) : List Int := U Y (tgm.two Y ws (X * Y))
structure Res where
  x : Int
  y : Int
  ws : List Int
  rows : List (List Int)
  ok : Bool
def full (X Y : Nat) (ws : List Int) (xss : List (List Int)) : Res := ⟨((fs X Y ws).length : Nat), ((ss X Y ws).length : Nat), wts (Y : Int) (fs X Y ws) (ss X Y ws) ws ((fs X Y ws).length * (ss X Y ws).length), make.rowsOf (N (Y : Int) (fs X Y ws) (ss X Y ws) xss) ((fs X Y ws).length * (ss X Y ws).length), true⟩
open Classical in
noncomputable def res (x y : Int) (ws : List Int) (xss : List (List Int)) : Res := if okGame x y ws xss then full x.toNat y.toNat ws xss else ⟨0, 0, [], [], false⟩
theorem res_yes {x y : Int} {ws : List Int} {xss : List (List Int)} (h : okGame x y ws xss) : res x y ws xss = full x.toNat y.toNat ws xss := if_pos h
theorem res_no {x y : Int} {ws : List Int} {xss : List (List Int)} (h : ¬ okGame x y ws xss) : res x y ws xss = ⟨0, 0, [], [], false⟩ := if_neg h
theorem some_on {X Y : Nat} {ws : List Int} {xss : List (List Int)} (h : okGame X Y ws xss) : ∃ t, t < X * Y ∧ 0 < wt ws t := by
  have hl : ws.length = X * Y := by have := h.2.1; exact_mod_cast this
  apply Classical.byContradiction
  intro hn
  have : ∀ x ∈ ws, x = 0 := fun x hx => by
    obtain ⟨k, hk, e⟩ := List.mem_iff_getElem.1 hx
    have h1 : ¬ 0 < wt ws k := fun hp => hn ⟨k, by omega, hp⟩
    have h2 := (h.2.2.2.1 k hk).1
    rw [← gwon.wt_get hk] at h1
    omega
  have hs : ws.sum = 0 := by
    clear h hn hl
    induction ws with
    | nil => rfl
    | cons a l ih => rw [List.sum_cons, this a (by simp), ih (fun x hx => this x (List.mem_cons_of_mem _ hx))]; rfl
  have := h.2.2.2.2.2
  omega
theorem mem_one {Y k t : Nat} {ws : List Int} (h : t < k) (hw : 0 < wt ws t) : ((t / Y : Nat) : Int) ∈ tgm.one Y ws k := by
  unfold tgm.one; exact List.mem_map.2 ⟨t, List.mem_filter.2 ⟨List.mem_range.2 h, by simp [on, hw]⟩, rfl⟩
theorem mem_two {Y k t : Nat} {ws : List Int} (h : t < k) (hw : 0 < wt ws t) : ((t % Y : Nat) : Int) ∈ tgm.two Y ws k := by
  unfold tgm.two; exact List.mem_map.2 ⟨t, List.mem_filter.2 ⟨List.mem_range.2 h, by simp [on, hw]⟩, rfl⟩
theorem ok_ask {X Y : Nat} {ws : List Int} {xss : List (List Int)} (h : okGame X Y ws xss) : okAsk X Y (fs X Y ws) (ss X Y ws) := by
  have hX : X ≤ 3 := by have := h.1.1; omega
  have hY : 1 ≤ Y ∧ Y ≤ 3 := by have := h.1.2; omega
  obtain ⟨t, ht, hw⟩ := some_on h
  have hp : t / Y < X := (Nat.div_lt_iff_lt_mul (by omega)).2 ht
  have hq : t % Y < Y := Nat.mod_lt _ (by omega)
  have l1 := U_len X (tgm.one Y ws (X * Y))
  have l2 := U_len Y (tgm.two Y ws (X * Y))
  have p1 := U_pos (Int.natCast_nonneg _) (Int.ofNat_lt.2 hp) (mem_one (Y := Y) ht hw)
  have p2 := U_pos (Int.natCast_nonneg _) (Int.ofNat_lt.2 hq) (mem_two (Y := Y) ht hw)
  exact ⟨⟨p1, by unfold fs; omega⟩, ⟨p2, by unfold ss; omega⟩, fun k hk => U_get hk, fun k hk => U_get hk⟩
theorem nine {X Y : Nat} {ws : List Int} {xss : List (List Int)} (h : okGame X Y ws xss) : (fs X Y ws).length * (ss X Y ws).length ≤ 9 := Nat.mul_le_mul (ok_ask h).1.2 (ok_ask h).2.1.2
theorem tot (x y : Int) (ws : List Int) (xss : List (List Int)) : total (res x y ws xss).rows ≤ 1048576 := by
  by_cases h : okGame x y ws xss
  · rw [res_yes h]
    obtain ⟨X, rfl⟩ : ∃ X : Nat, x = X := ⟨x.toNat, by have := h.1.1; omega⟩
    obtain ⟨Y, rfl⟩ : ∃ X : Nat, y = X := ⟨y.toNat, by have := h.1.2; omega⟩
    simp only [Int.toNat_natCast]
    exact make.total_rowsOf _ _ (nine h)
  · rw [res_no h]; exact Nat.zero_le _
theorem len_ws (x y : Int) (ws : List Int) (xss : List (List Int)) : (res x y ws xss).ws.length ≤ 1048576 := by
  by_cases h : okGame x y ws xss
  · rw [res_yes h]
    obtain ⟨X, rfl⟩ : ∃ X : Nat, x = X := ⟨x.toNat, by have := h.1.1; omega⟩
    obtain ⟨Y, rfl⟩ : ∃ X : Nat, y = X := ⟨y.toNat, by have := h.1.2; omega⟩
    simp only [Int.toNat_natCast]
    show (wts _ _ _ _ _).length ≤ _
    have := nine h
    rw [len_wts]; omega
  · rw [res_no h]; exact Nat.zero_le _


set_option maxRecDepth 100000 in
set_option maxHeartbeats 8000000 in
theorem impl_any (x y : Int) (v : Value) (ws : List Int) (u : Value) (xss : List (List Int)) (w : World) (h : game.GV w v ws u xss) (hn : ws.length ≤ 1048576) (hm : total xss ≤ 1048576) :
    Calls Try.prog 27 #[.agg #[.int .i64 x, .int .i64 y, v, u]] w fun e w' => ∃ a r, e = .returned (.tuple #[.agg #[.int .i64 (res x y ws xss).x, .int .i64 (res x y ws xss).y, a, r], .bool (res x y ws xss).ok]) ∧ game.OG w' w.heap.size w'.heap.size a (res x y ws xss).ws r (res x y ws xss).rows ∧ Below w.heap.size w w' := by
  obtain ⟨i0, hi, hz0, hz1, hz2⟩ := info_parts infoInt
  obtain ⟨va, vn, vc, ua, un, uc, rfl, rfl⟩ := h.shape
  have H := Lib.hid h
  have K1 := Lib.hid ((Blk.new w 40 #[.int .i64 x, .int .i64 y, .slice va vn vc, .slice ua un uc]).alloc (.cells #[.int .i64 0, .int .i64 0, .slice none 0 0, .slice none 0 0] 40))
  have R1 : Hid (Blk ((w.alloc (.cells #[.int .i64 x, .int .i64 y, .slice va vn vc, .slice ua un uc] 40)).alloc (.cells #[.int .i64 0, .int .i64 0, .slice none 0 0, .slice none 0 0] 40)) (w.heap.size + 1) 40 #[.int .i64 0, .int .i64 0, .slice none 0 0, .slice none 0 0]) := Lib.hid (by
    have := Blk.new (w.alloc (.cells #[.int .i64 x, .int .i64 y, .slice va vn vc, .slice ua un uc] 40)) 40 #[.int .i64 0, .int .i64 0, .slice none 0 0, .slice none 0 0]
    simpa using this)
  have B0 := Lib.hid (below_al (below_al (Below.refl w.heap.size w) (.cells #[.int .i64 x, .int .i64 y, .slice va vn vc, .slice ua un uc] 40)) (.cells #[.int .i64 0, .int .i64 0, .slice none 0 0, .slice none 0 0] 40))
  have HC := Lib.hid (gval.impl_any x y _ ws _ xss _ (h.below B0.out) hn hm)
  obtain ⟨c0, c1, c2, c3, c4⟩ := four_cells K1.out
  clear h
  by_cases hok : okGame x y ws xss
  · rw [gameB_yes hok] at HC
    rw [res_yes hok]
    obtain ⟨X, rfl⟩ : ∃ X : Nat, x = X := ⟨x.toNat, by have := hok.1.1; omega⟩
    obtain ⟨Y, rfl⟩ : ∃ X : Nat, y = X := ⟨y.toNat, by have := hok.1.2; omega⟩
    simp only [Int.toNat_natCast]
    have hX3 : (X : Int) ≤ 3 := hok.1.1.2
    have hY3 : (Y : Int) ≤ 3 := hok.1.2.2
    have HOK := Lib.hid hok
    have HL8 : Hid (X * Y ≤ 9) := Lib.hid (Nat.mul_le_mul (show X ≤ 3 by omega) (show Y ≤ 3 by omega))
    have HWT : Hid (∀ (W : World) (a b : Nat), Below w.heap.size w W → a < X → b < Y → Calls Try.prog 83 #[.agg #[.int .i64 (X : Int), .int .i64 (Y : Int), .slice va vn vc, .slice ua un uc], .int .i64 (a : Int), .int .i64 (b : Int)] W fun e w' => e = .returned (.int .i64 (wt ws (a * Y + b))) ∧ Below W.heap.size W w') := Lib.hid (fun W a b hW ha hb => by
      have := gwon.weightof X Y a b _ ws _ xss W (H.out.below hW) hok (by omega) (by omega) (by omega) (by omega)
      rw [gscore.at_cast] at this
      exact this)
    clear hok
    go_enter Try.func27, Try.ntmps27
    go_wp2_with fail
    refine HC.out.mono ?_
    rintro e w1 ⟨rfl, hb⟩
    have B1 := Lib.hid (below_tr B0.out hb)
    have K2 := Lib.hid (K1.out.below hb)
    have R2 := Lib.hid (R1.out.below hb)
    have T0 : Hid (Two w1.heap.size w1 w1 (.slice none 0 0) (.slice none 0 0) (tgm.one Y ws (0 * Y)) (tgm.two Y ws (0 * Y))) := Lib.hid (by
      have e1 : tgm.one Y ws (0 * Y) = [] := by rw [Nat.zero_mul]; rfl
      have e2 : tgm.two Y ws (0 * Y) = [] := by rw [Nat.zero_mul]; rfl
      rw [e1, e2]
      exact ⟨Below.refl _ _, ⟨by simp [i64s], .inl ⟨rfl, rfl⟩⟩, ⟨by simp [i64s], .inl ⟨rfl, rfl⟩⟩, fun q hq => by simp [Value.ownBlock] at hq⟩)
    clear c0 c1 c2 c3 c4 hb HC K1 R1 B0
    obtain ⟨c0, c1, c2, c3, c4⟩ := four_cells K2.out
    go_wp2_with fail
    clear c0 c1 c2 c3 c4
    go_loopw [4, 5, 6, 7, 14] (fun v4 v5 z6 z7 j wr => ∃ a : Nat, a ≤ X ∧ j = .int .i64 (a : Nat) ∧ (∃ z, z6 = z) ∧ (∃ z, z7 = z) ∧ Hid (Two w1.heap.size w1 wr v4 v5 (tgm.one Y ws (a * Y)) (tgm.two Y ws (a * Y)))) (fun _ _ _ _ j _ => X - (intOf j).toNat)
    case atStart => exact ⟨0, Nat.zero_le _, rfl, ⟨_, rfl⟩, ⟨_, rfl⟩, T0⟩
    case round =>
      clear T0
      obtain ⟨a, ha, rfl, ⟨z6, rfl⟩, ⟨z7, rfl⟩, hT⟩ := hrel
      obtain ⟨wo, rfl⟩ : ∃ wi : World, wi = wr := ⟨_, rfl⟩
      by_cases hla : a < X
      · have hka : (a : Int) < (X : Int) := by omega
        have HLA := Lib.hid hla
        obtain ⟨c0, c1, c2, c3, c4⟩ := four_cells (K2.out.below hT.out.below)
        go_wp2_with fail
        clear c0 c1 c2 c3 c4
        go_loopw [4, 5, 7, 19] (fun v4 v5 z7 j wr => ∃ b : Nat, b ≤ Y ∧ j = .int .i64 (b : Nat) ∧ (∃ z, z7 = z) ∧ Hid (Two w1.heap.size w1 wr v4 v5 (tgm.one Y ws (a * Y + b)) (tgm.two Y ws (a * Y + b)))) (fun _ _ _ j _ => Y - (intOf j).toNat)
        case atStart => exact ⟨0, Nat.zero_le _, rfl, ⟨_, rfl⟩, hT⟩
        case round =>
          clear hT
          obtain ⟨b, hb, rfl, ⟨z7, rfl⟩, hT⟩ := hrel
          obtain ⟨wi, rfl⟩ : ∃ wi : World, wi = wr := ⟨_, rfl⟩
          by_cases hlb : b < Y
          · have hkb : (b : Int) < (Y : Int) := by omega
            have HLB := Lib.hid hlb
            have q1 : (a * Y + b) / Y = a := by rw [Nat.add_comm, Nat.add_mul_div_right _ _ (by omega), Nat.div_eq_of_lt hlb, Nat.zero_add]
            have q2 : (a * Y + b) % Y = b := by rw [Nat.add_comm, Nat.add_mul_mod_self_right, Nat.mod_eq_of_lt hlb]
            have HL9 : Hid ((tgm.one Y ws (a * Y + b)).length ≤ 9) := Lib.hid (by
              have g1 : a * Y + b < (a + 1) * Y := by rw [Nat.add_mul]; omega
              have g2 : (a + 1) * Y ≤ X * Y := Nat.mul_le_mul_right _ (by have := HLA.out; omega)
              have := tgm.one_len Y ws (a * Y + b)
              have := HL8.out
              omega)
            have HL7 := Lib.hid (tgm.two_len Y ws (a * Y + b))
            have HCW := Lib.hid (HWT.out wi a b (below_tr B1.out hT.out.below) HLA.out hlb)
            obtain ⟨c0, c1, c2, c3, c4⟩ := four_cells (K2.out.below hT.out.below)
            by_cases hw : 0 < wt ws (a * Y + b)
            · have HY1 := Lib.hid (tgm.one_yes (Y := Y) hw)
              have HY2 := Lib.hid (tgm.two_yes (Y := Y) hw)
              rw [q1] at HY1
              rw [q2] at HY2
              generalize tgm.one Y ws (a * Y + b) = L at *
              generalize tgm.two Y ws (a * Y + b) = M at *
              have dw : decide (0 < wt ws (a * Y + b)) = true := by simp [hw]
              generalize wt ws (a * Y + b) = tt at *
              clear q1 q2 hw
              go_wp2_with fail
              refine HCW.out.mono ?_
              rintro e w5 ⟨rfl, hb5⟩
              have hsz : w1.heap.size ≤ wi.heap.size := hT.out.below.size
              have T1 := Lib.hid (hT.out.keep hb5 hsz)
              have hs5 : w1.heap.size ≤ w5.heap.size := T1.out.below.size
              have T2 := Lib.hid (T1.out.keep (below_al (Below.refl _ _) (.cells #[.int .i64 (a : Int)] 3)) hs5)
              clear hb5 hT T1 HCW c0 c1 c2 c3 c4
              go_wp2_with (at_builtin; go_must (refine boxl.app_lies rfl (.tmp 27) (.tmp 29) 34 rfl (w1.heap.size) 3 i0 (.int .i64 0) 1 8 Try.underlying34 hi hz0 hz1 hz2 rfl (by decide) _ _ _ rfl T2.out.one ⟨w5.heap.size, 0, none⟩ 1 1 [.int .i64 (a : Int)] rfl rfl ?c1p ?c2p ?c3p ?c4p ?c5p ?c6p ?_))
              try (case c1p => first | exact app.one_at _ _ _ | (intro q u hq; have h5 := app.one_at w5 (.int .i64 (a : Int)) 3 q u hq; simpa using h5))
              try (case c2p => first | rfl | (intro u hu; simp at hu; subst hu; rfl))
              try (case c3p => have := HL9.out; have := HL8.out; unfold maxLen; omega)
              try (case c4p => have := HL9.out; have := HL8.out; omega)
              try (case c5p => first | omega | (simp; omega))
              try (case c6p => omega)
              intro vp wp hownp hgrowp hliesp
              have T3 := Lib.hid (T2.out.left (L' := L ++ [(a : Int)]) (by rw [app.i64s_snoc] at hownp; rw [List.length_append]; exact hownp) hgrowp (by simp; omega) (by simpa using hliesp))
              obtain ⟨pa, pl, pc, rfl⟩ := boxl.shapez T3.out.one
              have hsp : w1.heap.size ≤ wp.heap.size := T3.out.below.size
              have T4 := Lib.hid (T3.out.keep (below_al (Below.refl _ _) (.cells #[.int .i64 (b : Int)] 3)) hsp)
              clear hownp hgrowp hliesp T2 T3
              go_wp2_with (at_builtin; go_must (refine boxl.app_lies rfl (.tmp 31) (.tmp 33) 34 rfl (w1.heap.size) 3 i0 (.int .i64 0) 1 8 Try.underlying34 hi hz0 hz1 hz2 rfl (by decide) _ _ _ rfl T4.out.two ⟨wp.heap.size, 0, none⟩ 1 1 [.int .i64 (b : Int)] rfl rfl ?c1s ?c2s ?c3s ?c4s ?c5s ?c6s ?_))
              try (case c1s => first | exact app.one_at _ _ _ | (intro q u hq; have h5 := app.one_at wp (.int .i64 (b : Int)) 3 q u hq; simpa using h5))
              try (case c2s => first | rfl | (intro u hu; simp at hu; subst hu; rfl))
              try (case c3s => have := HL9.out; have := HL7.out; unfold maxLen; omega)
              try (case c4s => have := HL9.out; have := HL7.out; omega)
              try (case c5s => first | omega | (simp; omega))
              try (case c6s => omega)
              intro vs ws howns hgrows hliess
              have T5 := Lib.hid (T4.out.right (M' := M ++ [(b : Int)]) (by rw [app.i64s_snoc] at howns; rw [List.length_append]; exact howns) hgrows (by simp; omega) (by simpa using hliess))
              clear howns hgrows hliess T4
              go_wp2_with fail
              go_roundw
              case rel => exact ⟨b + 1, by have := HLB.out; omega, by go_num, ⟨_, rfl⟩, Lib.hid (by rw [← Nat.add_assoc, HY1.out, HY2.out]; exact T5.out)⟩
              case measure => have := HLB.out; simp [intOf]; omega
            · have HY1 := Lib.hid (tgm.one_no (Y := Y) hw)
              have HY2 := Lib.hid (tgm.two_no (Y := Y) hw)
              have dw : decide (0 < wt ws (a * Y + b)) = false := by simp; omega
              generalize wt ws (a * Y + b) = tt at *
              clear q1 q2 hw
              go_wp2_with fail
              refine HCW.out.mono ?_
              rintro e w5 ⟨rfl, hb5⟩
              have T1 := Lib.hid (hT.out.keep hb5 hT.out.below.size)
              clear hb5 hT HCW c0 c1 c2 c3 c4
              go_wp2_with fail
              go_roundw
              case rel => exact ⟨b + 1, by have := HLB.out; omega, by go_num, ⟨_, rfl⟩, Lib.hid (by rw [← Nat.add_assoc, HY1.out, HY2.out]; exact T1.out)⟩
              case measure => have := HLB.out; simp [intOf]; omega
          · have hkb : ¬ (b : Int) < (Y : Int) := by omega
            obtain rfl : b = Y := by omega
            have hT2 : Hid (Two w1.heap.size w1 wi u4 u5 (tgm.one b ws ((a + 1) * b)) (tgm.two b ws ((a + 1) * b))) := Lib.hid (by rw [Nat.add_mul, Nat.one_mul]; exact hT.out)
            go_wp2_with fail
            go_roundw
            case rel => exact ⟨a + 1, by have := HLA.out; omega, by go_num, ⟨_, rfl⟩, ⟨_, rfl⟩, hT2⟩
            case measure => have := HLA.out; simp [intOf]; omega
      · have hka : ¬ (a : Int) < (X : Int) := by omega
        obtain rfl : a = X := by omega
        have HU1 : Hid (Lib.compact (tgm.one Y ws (a * Y)) = fs a Y ws) := Lib.hid (one_U (by have := HOK.out.1.2; omega) (Nat.le_refl _))
        have HU2 : Hid (Lib.compact ((tgm.two Y ws (a * Y)).mergeSort fun x y => decide (x ≤ y)) = ss a Y ws) := Lib.hid (two_U (by have := HOK.out.1.2; omega))
        have HP1 : Hid (0 < (tgm.one Y ws (a * Y)).length ∧ (tgm.one Y ws (a * Y)).length < 100) := Lib.hid (by
          obtain ⟨t, ht, hw⟩ := some_on HOK.out
          have := List.length_pos_of_mem (mem_one (Y := Y) ht hw)
          have := tgm.one_len Y ws (a * Y)
          have := HL8.out
          omega)
        have HP2 : Hid (0 < (tgm.two Y ws (a * Y)).length ∧ (tgm.two Y ws (a * Y)).length < 100) := Lib.hid (by rw [tgm.two_len]; exact HP1.out)
        generalize tgm.one Y ws (a * Y) = L at *
        generalize tgm.two Y ws (a * Y) = M at *
        go_wp2_with fail
        refine (sorts _ _ _ _ hT.out.two HP2.out.1 HP2.out.2).mono ?_
        rintro e w3 ⟨rfl, ho3, hg3⟩
        have T3 := Lib.hid (hT.out.right ho3 hg3 hT.out.below.size (.inl rfl))
        have HP3 : Hid (0 < (M.mergeSort fun x y => decide (x ≤ y)).length ∧ (M.mergeSort fun x y => decide (x ≤ y)).length < 100) := Lib.hid (by rw [List.length_mergeSort]; exact HP2.out)
        generalize (M.mergeSort fun x y => decide (x ≤ y)) = M' at *
        clear ho3 hg3 hT HP2
        have hB3 : w1.heap.size ≤ w3.heap.size := T3.out.below.size
        have T4 := Lib.hid (T3.out.keep (below_dr (Below.refl _ _)) hB3)
        have HK1 := Lib.hid (comp1 T4.out hB3 HP1.out.1 HP1.out.2)
        have HK2 : Hid (∀ W f, One w1.heap.size w1 W f u5 (Lib.compact L) M' → Calls Try.prog 85 #[u5] W fun e w' => ∃ s, e = .returned s ∧ Both w1.heap.size w1 w' f s (Lib.compact L) (Lib.compact M')) := Lib.hid (fun W f h => comp2 h h.below.size HP3.out.1 HP3.out.2)
        have HK3 : Hid (∀ W f s, Both w1.heap.size w1 W f s (Lib.compact L) (Lib.compact M') → Calls Try.prog 79 #[.agg #[.int .i64 (a : Int), .int .i64 (Y : Int), .slice va vn vc, .slice ua un uc], f, s] W fun e w' => ∃ p r, e = .returned (.agg #[.int .i64 ((fs a Y ws).length : Nat), .int .i64 ((ss a Y ws).length : Nat), p, r]) ∧ game.OG w' W.heap.size w'.heap.size p (wts (Y : Int) (fs a Y ws) (ss a Y ws) ws ((fs a Y ws).length * (ss a Y ws).length)) r (make.rowsOf (N (Y : Int) (fs a Y ws) (ss a Y ws) xss) ((fs a Y ws).length * (ss a Y ws).length)) ∧ Below w1.heap.size w1 W ∧ Below W.heap.size W w') := Lib.hid (fun W f s h => by
          have h1 := h.one
          have h2 := h.two
          rw [HU1.out] at h1
          rw [HU2.out] at h2
          refine (gask.asked a Y _ ws _ xss f s (fs a Y ws) (ss a Y ws) W (H.out.below (below_tr B1.out h.below)) h1 h2 HOK.out (ok_ask HOK.out)).mono ?_
          rintro e w' ⟨p, r, rfl, hO, hb⟩
          exact ⟨p, r, rfl, hO, h.below, hb⟩)
        obtain ⟨c0, c1, c2, c3⟩ := keepS K2.out T3.out.below
        have hne : w.heap.size + 1 ≠ w.heap.size := by omega
        have b4 := T4.out.below
        clear T3
        go_wp2_with fail
        go_region_held3 (fun w' => w'.cell? ⟨w.heap.size, 0, none⟩ = some (.int .i64 (a : Int)) ∧ w'.cell? ⟨w.heap.size, 1, none⟩ = some (.int .i64 (Y : Int)) ∧ w'.cell? ⟨w.heap.size, 2, none⟩ = some (.slice va vn vc) ∧ w'.cell? ⟨w.heap.size, 3, none⟩ = some (.slice ua un uc))
          ((first | (with_reducible exact keepS K2.out b4) | (with_reducible exact keepS K2.out hq1) | (with_reducible exact keepS K2.out hq2) | (with_reducible exact keepS K2.out hq3) | (refine setS hne _ _ (setS hne _ _ (setS hne _ _ (setS hne _ _ ?_))); with_reducible exact keepS K2.out hq3)))
          (first
            | (go_at_call 85; (with_reducible refine HK1.out.mono ?_); rintro e wq1 ⟨f1, rfl, hk1⟩; have hq1 := hk1.below)
            | (go_at_call 85; (with_reducible refine (HK2.out _ _ hk1).mono ?_); rintro e wq2 ⟨s1, rfl, hk2⟩; have hq2 := hk2.below)
            | (go_at_call 79; (with_reducible refine (HK3.out _ _ _ hk2).mono ?_); rintro e wq3 ⟨ga, gr, rfl, hog, hbw, hb3⟩; obtain ⟨aa, an, ac, ra, rn, rc, rfl, rfl⟩ := hog.view.shape; have hq3 := below_tr hbw hb3; have R5 := R2.out.below hq3; obtain ⟨r0, r1, r2, r3, r4⟩ := four_cells R5; have rf : ∀ k, wq3.frozen? ⟨w.heap.size + 1, k, none⟩ = false := fun k => Joins.unfrozen_of_block R5 k))
        have hz1 := R2.out.lt
        have hz2 := hbw.size
        have BW := Lib.hid (below_tr B1.out hq3)
        have BB := Lib.hid (below_tr B1.out hbw)
        have HO := Lib.hid hog
        clear hog hbw hb3 hk1 hk2 hq1 hq2 hq3 b4 c0 c1 c2 c3
        go_wp2_with fail
        refine bodyPost_ret (v := .tuple #[.agg #[.int .i64 ((fs a Y ws).length : Nat), .int .i64 ((ss a Y ws).length : Nat), .slice aa an ac, .slice ra rn rc], .bool true]) (by simp [results, Try.results27, go_sem, r0, r1, r2, r3]) rfl ?_
        refine ⟨_, _, rfl, ?_, ?_⟩
        · refine (HO.out.wrote (S := fun p => p.block < wq2.heap.size) ?_ (fun p hp => .inl hp)).mono BB.out.size (by simp [World.setCell])
          repeat (first | exact Wrote.refl _ _ | refine Wrote.setCell ?_ (by first | omega | (simp; omega)) _)
        · repeat (first | (with_reducible exact BW.out) | refine Below.setCell ?_ (by simp <;> omega) _)
  · rw [gameB_no hok] at HC
    rw [res_no hok]
    clear hok
    go_enter Try.func27, Try.ntmps27
    go_wp2_with fail
    refine HC.out.mono ?_
    rintro e w1 ⟨rfl, hb⟩
    have B1 := Lib.hid (below_tr B0.out hb)
    have R2 := Lib.hid (R1.out.below hb)
    obtain ⟨r0, r1, r2, r3, r4⟩ := four_cells R2.out
    have rf : ∀ k, w1.frozen? ⟨w.heap.size + 1, k, none⟩ = false := fun k => Joins.unfrozen_of_block R2.out k
    clear c0 c1 c2 c3 c4 hb HC K1 R1 B0
    go_wp2_with fail
    refine bodyPost_ret (v := .tuple #[.agg #[.int .i64 0, .int .i64 0, .slice none 0 0, .slice none 0 0], .bool false]) (by simp [results, Try.results27, go_sem, r0, r1, r2, r3]) rfl ?_
    refine ⟨_, _, rfl, game.OG.nil _ _ _ (by have := B1.out.size; simp [World.setCell]; omega), ?_⟩
    repeat (first | (with_reducible exact B1.out) | refine Below.setCell ?_ (by simp <;> omega) _)

end Go.Proofs.Ytimfnhejiiagmaa.tgp
