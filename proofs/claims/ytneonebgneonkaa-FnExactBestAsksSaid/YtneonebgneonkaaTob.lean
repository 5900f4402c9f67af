/- tableOf of the program: lists of the same length, copied to a table. -/
import Derived.Test.YtneonebgneonkaaTab
import Derived.Test.YtneonebgneonkaaCll
import Derived.Laws.CopyOwn
namespace Go.Proofs.Ytneonebgneonkaa.tab
open Go.RowKit Go.Deep Go.Proofs.Ytneonebgneonkaa.base
open Go.Proofs.Ytneonebgneonkaa.ints (ret_int infoInt infoInts)
open Go.Proofs.Ytneonebgneonkaa.row (nn)

def G (xss : List (List Int)) (Y n i : Nat) : Int := if i < n then nn xss (i / Y) (i % Y) else 0
theorem dmt (a Y c : Nat) (hc : c < Y) : (a * Y + c) / Y = a ∧ (a * Y + c) % Y = c := by
  rw [Nat.mul_comm]
  refine ⟨?_, ?_⟩
  · rw [Nat.mul_add_div (by omega), Nat.div_eq_of_lt hc, Nat.add_zero]
  · rw [Nat.mul_add_mod, Nat.mod_eq_of_lt hc]
theorem G_step (xss : List (List Int)) (Y a i : Nat) : (if a * Y ≤ i ∧ i < a * Y + Y then nn xss a (i - a * Y) else G xss Y (a * Y) i) = G xss Y ((a + 1) * Y) i := by
  unfold G
  rw [Nat.add_mul, Nat.one_mul]
  by_cases h : a * Y ≤ i ∧ i < a * Y + Y
  · rw [if_pos h, if_pos h.2]
    obtain ⟨c, rfl⟩ : ∃ c, i = a * Y + c := ⟨i - a * Y, by omega⟩
    obtain ⟨e1, e2⟩ := dmt a Y c (by omega)
    rw [e1, e2, Nat.add_sub_cancel_left]
  · rw [if_neg h]
    by_cases h2 : i < a * Y
    · rw [if_pos h2, if_pos (by omega)]
    · rw [if_neg h2, if_neg (by omega)]

/-- the finished table -/
theorem Tab.rowsG {w W : World} {g X Y M : Nat} {v : Value} {xss : List (List Int)} (h : Tab w W g v X Y M (G xss Y (X * Y))) (hM : M = X * Y) (hm : M ≤ 12) (hX : xss.length = X) (hr : ∀ r, r < X → (xss.getD r []).length = Y) : OwnRows W w.heap.size W.heap.size v xss := by
  have hs := app.sl_of_owns h.own
  have vb : ∀ p, In v p → v.ownBlock = some p.block := by
    rintro p ⟨b, o, len, cap, rfl, hb, _⟩
    simp [Value.ownBlock, hb]
  have su : ∀ u ∈ slots g Y X, ∃ i, i < X ∧ u = .slice (some ⟨g, i * Y, none⟩) Y Y := by
    intro u hu
    obtain ⟨i, hi, rfl⟩ := List.mem_map.1 hu
    exact ⟨i, List.mem_range.1 hi, rfl⟩
  have inu : ∀ i p, In (.slice (some ⟨g, i * Y, none⟩) Y Y) p → p.block = g ∧ p.spot = none ∧ i * Y ≤ p.off ∧ p.off < i * Y + Y := by
    rintro i p ⟨b, o, len, cap, hv, h1, h2, h3, h4⟩
    injection hv with e1 e2 _
    injection e1 with e1
    injection e1 with e1 e3
    subst e1; subst e2; subst e3
    exact ⟨h1, h2, h3, h4⟩
  have far : ∀ i j : Nat, i < j → i * Y + Y ≤ j * Y := fun i j hij => by
    calc i * Y + Y = (i + 1) * Y := by rw [Nat.add_mul, Nat.one_mul]
      _ ≤ j * Y := Nat.mul_le_mul_right _ hij
  refine ⟨slots g Y X, hs, by rw [len_slots, hX], ?_, ?_, fun p hp => In.lt hs hp, ?_, ?_, ?_, ?_, ?_⟩
  · intro r hrl
    have hr' : r < X := by omega
    have e := row.getD_lt hrl
    have hy := hr r hr'
    rw [e] at hy
    have h9 : r * Y + Y ≤ X * Y := by
      calc r * Y + Y = (r + 1) * Y := by rw [Nat.add_mul, Nat.one_mul]
        _ ≤ X * Y := Nat.mul_le_mul_right _ hr'
    refine ⟨_, slots_at hr', some ⟨g, r * Y, none⟩, Y, ?_, ?_, ?_, ?_⟩
    · rw [len_i64s, hy]
    · rw [len_i64s, hy]; exact Nat.le_refl _
    · unfold maxLen; omega
    · intro k u hu
      have hk : k < Y := by
        rcases Nat.lt_or_ge k Y with h' | h'
        · exact h'
        · rw [List.getElem?_eq_none (by rw [len_i64s, hy]; exact h')] at hu; cases hu
      refine ⟨g, r * Y, rfl, ?_⟩
      obtain ⟨e1, e2⟩ := dmt r Y k hk
      have hc := h.num.cell (i := r * Y + k) (by omega)
      rw [hc]
      unfold G
      rw [if_pos (by omega), e1, e2]
      rw [← hu, get_i64s (by omega : k < xss[r].length)]
      unfold nn
      rw [e]
      have hk2 : k < xss[r].length := by omega
      simp [List.getD, hk2]
  · intro p hp; have := (h.own.lt _ (vb p hp)).1; have := h.ge; omega
  · intro u hu p hp
    obtain ⟨i, _, rfl⟩ := su u hu
    rw [(inu i p hp).1]; exact h.ge
  · intro u hu p hp
    obtain ⟨i, _, rfl⟩ := su u hu
    rw [(inu i p hp).1]; exact h.num.lt
  · intro u hu p hp
    obtain ⟨i, _, rfl⟩ := su u hu
    obtain ⟨e1, e2, _, _⟩ := inu i p hp
    have := h.num.frozen p.off
    obtain ⟨pb, po, pst⟩ := p
    simp only at e1 e2 this
    subst e1; subst e2
    exact this
  · intro u hu p hp hq
    obtain ⟨i, _, rfl⟩ := su u hu
    have h1 := (inu i p hp).1
    have h2 := (h.own.lt _ (vb p hq)).1
    omega
  · intro r s a b hne ha hb p hp hq
    have hr : r < X := by
      rcases Nat.lt_or_ge r X with h' | h'
      · exact h'
      · rw [List.getElem?_eq_none (by rw [len_slots]; omega)] at ha; cases ha
    have hs' : s < X := by
      rcases Nat.lt_or_ge s X with h' | h'
      · exact h'
      · rw [List.getElem?_eq_none (by rw [len_slots]; omega)] at hb; cases hb
    rw [slots_at hr] at ha
    rw [slots_at hs'] at hb
    injection ha with ha
    injection hb with hb
    subst ha; subst hb
    obtain ⟨_, _, h3, h4⟩ := inu r p hp
    obtain ⟨_, _, h5, h6⟩ := inu s p hq
    rcases Nat.lt_or_gt_of_ne hne with e | e
    · have := far r s e; omega
    · have := far s r e; omega


set_option maxRecDepth 100000 in
set_option maxHeartbeats 4000000 in
theorem tableOf (v : Value) (xss : List (List Int)) (X Y : Nat) (w : World) (h : IRows w v xss) (hl : xss.length = X) (hX : 1 ≤ X ∧ X ≤ 3) (hY : 1 ≤ Y ∧ Y ≤ 4) (hr : ∀ r, r < X → (xss.getD r []).length = Y) :
    Calls Try.prog 81 #[v] w fun e w' => ∃ u, e = .returned u ∧ OwnRows w' w.heap.size w'.heap.size u xss ∧ Below w.heap.size w w' := by
  obtain ⟨d, q, cap, rfl, m1, m2, hrm⟩ := cll.rows h hl (by omega) (by omega) hr
  have HEND := Lib.hid (fun (W : World) (g M : Nat) (v : Value) (T : Tab w W g v X Y M (G xss Y (X * Y))) (h1 : M = X * Y) (h2 : M ≤ 12) => T.rowsG h1 h2 hl hr)
  clear h hl hr m1 m2
  have hkz0 : (0 : Int) < (X : Int) := by omega
  have hX0 : 0 < X := by omega
  obtain ⟨b0, o0, cap0, g0, _⟩ := hrm 0 hX0
  rw [Nat.add_zero] at g0
  have HR := Lib.hid hrm
  have hM9 : X * Y ≤ 3 * 4 := Nat.mul_le_mul hX.2 hY.2
  have HNT := Lib.hid (newTable X Y w hX hY)
  obtain ⟨M, hM⟩ : ∃ M, X * Y = M := ⟨_, rfl⟩
  rw [hM] at hM9 HNT
  have HM := Lib.hid hM
  have HMU := Lib.hid (fun (r : Nat) (hr : r < X) => show r * Y + Y ≤ M from by
    rw [← hM]; calc r * Y + Y = (r + 1) * Y := by rw [Nat.add_mul, Nat.one_mul]
      _ ≤ X * Y := Nat.mul_le_mul_right _ hr)
  clear hrm hM
  go_enter Try.func81, Try.ntmps81
  go_wp2_with fail
  refine HNT.out.mono ?_
  rintro e w1 ⟨v1, rfl, hT⟩
  obtain ⟨tb, to, tc, rfl, hgt⟩ := hT.form (by omega)
  have T0 : Hid (Tab w w1 w.heap.size (.slice (some ⟨tb, to, none⟩) X tc) X Y M (G xss Y (0 * Y))) := Lib.hid ⟨hT.below, hT.ge, hT.num.congr (fun i hi => by simp [G]), hT.own⟩
  clear hT HNT g0
  go_wp2_with fail
  go_loopw [4, 5, 15] (fun z4 z5 i wr => ∃ a : Nat, a ≤ X ∧ i = .int .i64 a ∧ (∃ z', z4 = z') ∧ (∃ z', z5 = z') ∧ Hid (Tab w wr w.heap.size (.slice (some ⟨tb, to, none⟩) X tc) X Y M (G xss Y (a * Y)))) (fun _ _ i _ => X - (intOf i).toNat)
  case atStart => exact ⟨0, Nat.zero_le _, rfl, ⟨_, rfl⟩, ⟨_, rfl⟩, T0⟩
  case round =>
    obtain ⟨a, ha, rfl, ⟨z4, rfl⟩, ⟨z5, rfl⟩, hT⟩ := hrel
    clear T0
    obtain ⟨wo, rfl⟩ : ∃ wo : World, wo = wr := ⟨_, rfl⟩
    by_cases hlt : a < X
    · have hkz : (a : Int) < (X : Int) := by omega
      obtain ⟨b, o, cap', gr, gc⟩ := HR.out a hlt
      have e1 := hT.out.cells hlt
      have e2 := below_cell hT.out.below _ _ gr
      have GC := Lib.hid gc
      obtain ⟨cur, hcg, hcs, hcf⟩ := hT.out.num
      have hmu := HMU.out a hlt
      obtain ⟨nums, hnums⟩ : ∃ nums : List Value, nums = (List.range Y).map (fun c => Value.int .i64 (nn xss a c)) := ⟨_, rfl⟩
      have hnl : nums.length = Y := by rw [hnums]; simp
      have hna : ∀ j u, nums[j]? = some u → j < Y ∧ u = .int .i64 (nn xss a j) := fun j u hu => by
        have hj : j < Y := by
          rcases Nat.lt_or_ge j Y with h' | h'
          · exact h'
          · rw [List.getElem?_eq_none (by omega)] at hu; cases hu
        rw [hnums] at hu
        simp [hj] at hu
        exact ⟨hj, hu.symm⟩
      have HSP := Lib.hid (splice hcg hcs hcf nums (off := a * Y) (by rw [hnl]; exact hmu))
      have HNA := Lib.hid hna
      have hsrc : Hid (∀ (j : Nat) (u : Value), nums[j]? = some u → wo.cell? ((⟨b, o, none⟩ : Addr).add j) = some u) := Lib.hid (fun j u hu => by
        obtain ⟨h1, rfl⟩ := HNA.out j u hu
        rw [row.opn_add]
        exact below_cell hT.out.below _ _ (GC.out j h1))
      have hone : Hid (∀ u ∈ nums, u.oneCell' = true) := Lib.hid (fun u hu => by rw [hnums] at hu; obtain ⟨c, _, rfl⟩ := List.mem_map.1 hu; rfl)
      have T1 : Hid (Tab w (wo.setRow w.heap.size (cur.toList.take (a * Y) ++ (nums ++ cur.toList.drop (a * Y + nums.length))).toArray) w.heap.size (.slice (some ⟨tb, to, none⟩) X tc) X Y M (G xss Y ((a + 1) * Y))) := Lib.hid (by
        refine ⟨below_setRow hT.out.below (Nat.le_refl _) _, Nat.le_refl _, HSP.out.congr (fun i hi => ?_), owns_block hT.out.own (fun bb hbb => setRow_other _ _ _ _ ?_)⟩
        · rw [hnl, ← G_step]
          by_cases hin : a * Y ≤ i ∧ i < a * Y + Y
          · rw [if_pos hin, if_pos hin, hnums]
            have hlt' : i - a * Y < Y := by omega
            simp [List.getD, hlt']
          · rw [if_neg hin, if_neg hin]
        · have := (hT.out.own.lt _ hbb).1; omega)
      obtain ⟨SS, hSS⟩ : ∃ SS, a * Y = SS := ⟨_, rfl⟩
      have HS := Lib.hid hSS
      rw [hSS] at e1 T1 hmu
      have hlen : nums.length = Nat.min Y Y := by rw [hnl]; simp
      have hfit : SS + nums.length ≤ cur.size := by rw [hnl, hcs]; exact hmu
      have HOP : Hid ((Try.prog.info? 3).map (·.size) = some 1) := Lib.hid (by kernel_rfl)
      clear hna hnums HSP hcs hcf gc gr hSS
      go_wp2_with (with_reducible refine wpList_copy_own rfl (.tmp 23) (.tmp 24) 22 22 rfl 3 Try.underlying22 HOP.out w.heap.size SS Y Y ⟨b, o, none⟩ Y cap' rfl rfl cur 3 hcg nums hlen hsrc.out hfit hone.out ?_; generalize wo.setRow w.heap.size (cur.toList.take SS ++ (nums ++ cur.toList.drop (SS + nums.length))).toArray = w2 at T1 ⊢)
      clear hlen hfit hcg e1 e2 hsrc hone hT
      go_roundw
      case rel => exact ⟨a + 1, by omega, by go_num, ⟨_, rfl⟩, ⟨_, rfl⟩, T1⟩
      case measure => simp [intOf]; omega
    · have hkz : ¬ (a : Int) < (X : Int) := by omega
      obtain rfl : a = X := by omega
      go_wp2_with fail
      go_ret
      exact ⟨_, rfl, HEND.out _ _ _ _ hT.out HM.out.symm (by omega), hT.out.below⟩


end Go.Proofs.Ytneonebgneonkaa.tab
