/- multiplied and SwitchSigns of the program. -/
import Derived.Test.YtfkdhdiacelcjaaSwt
import Derived.Test.YtfkdhdiacelcjaaTab
import Derived.Laws.CopyOwn
import Derived.BigRegion
namespace Go.Proofs.Ytfkdhdiacelcjaa.tab
open Go.RowKit Go.Deep Go.Proofs.Ytfkdhdiacelcjaa.base
open Go.Proofs.Ytfkdhdiacelcjaa.ints (ret_int infoInt infoInts)
open Go.Proofs.Ytfkdhdiacelcjaa.sgn (wide okSign signB signB_yes signB_no)
open Go.Proofs.Ytfkdhdiacelcjaa.sws (sw swrow swrows signs signsB signsB_yes signsB_no len_swrow len_swrows res res_yes res_no)
open Go.Proofs.Ytfkdhdiacelcjaa.row (nn)

theorem dm (a Y c : Nat) (hc : c < Y) : (a * Y + c) / Y = a ∧ (a * Y + c) % Y = c := by
  constructor
  · rw [Nat.add_comm, Nat.add_mul_div_right _ _ (by omega), Nat.div_eq_of_lt hc, Nat.zero_add]
  · rw [Nat.add_comm, Nat.add_mul_mod_self_right, Nat.mod_eq_of_lt hc]
/-- the numbers with the first places switched -/
def F1 (xss : List (List Int)) (rs ps : List Int) (Y n : Nat) (i : Nat) : Int := if i < n then sw xss rs ps (i / Y) (i % Y) else 0
/-- a row copied and switched in its first places -/
def F2 (xss : List (List Int)) (rs ps : List Int) (Y a c : Nat) (i : Nat) : Int := if i < a * Y + c then sw xss rs ps (i / Y) (i % Y) else if i < a * Y + Y then nn xss a (i - a * Y) else 0
theorem F2_start (xss : List (List Int)) (rs ps : List Int) (Y a i : Nat) : (if a * Y ≤ i ∧ i < a * Y + Y then nn xss a (i - a * Y) else F1 xss rs ps Y (a * Y) i) = F2 xss rs ps Y a 0 i := by
  unfold F1 F2
  by_cases h1 : i < a * Y
  · rw [if_neg (by omega), if_pos h1, if_pos (by omega)]
  · by_cases h2 : i < a * Y + Y
    · rw [if_pos ⟨by omega, h2⟩, if_neg (by omega), if_pos h2]
    · rw [if_neg (by omega), if_neg h1, if_neg (by omega), if_neg h2]
theorem F2_end (xss : List (List Int)) (rs ps : List Int) (Y a i : Nat) : F2 xss rs ps Y a Y i = F1 xss rs ps Y ((a + 1) * Y) i := by
  unfold F1 F2
  have e : (a + 1) * Y = a * Y + Y := by rw [Nat.add_mul, Nat.one_mul]
  rw [e]
  by_cases h1 : i < a * Y + Y
  · rw [if_pos h1, if_pos h1]
  · rw [if_neg h1, if_neg h1, if_neg h1]
theorem F2_step (xss : List (List Int)) (rs ps : List Int) (Y a c i : Nat) (hc : c < Y) : (if i = a * Y + c then sw xss rs ps a c else F2 xss rs ps Y a c i) = F2 xss rs ps Y a (c + 1) i := by
  unfold F2
  by_cases h : i = a * Y + c
  · obtain ⟨e1, e2⟩ := dm a Y c hc
    rw [if_pos h, if_pos (by omega), h, e1, e2]
  · rw [if_neg h]
    by_cases h1 : i < a * Y + c
    · rw [if_pos h1, if_pos (by omega)]
    · rw [if_neg h1, if_neg (show ¬ i < a * Y + (c + 1) from by omega)]
theorem F2_at (xss : List (List Int)) (rs ps : List Int) (Y a c : Nat) (hc : c < Y) : F2 xss rs ps Y a c (a * Y + c) = nn xss a c := by
  unfold F2
  rw [if_neg (by omega), if_pos (by omega), show a * Y + c - a * Y = c from by omega]

/-- a stretch of a row copied over -/
theorem splice {W : World} {g M off : Nat} {t : TypeId} {cur : Array Value} {f : Nat → Value} (hg : W.heap[g]? = some (.cells cur t (0, 0))) (hs : cur.size = M) (hf : ∀ i, i < M → cur[i]? = some (f i)) (cs : List Value) (hfit : off + cs.length ≤ M) :
    (W.setRow g (cur.toList.take off ++ (cs ++ cur.toList.drop (off + cs.length))).toArray).rowIs g t M (fun i => if off ≤ i ∧ i < off + cs.length then cs.getD (i - off) .nilFunc else f i) := by
  refine ⟨_, setRow_heap W g cur _ t (0, 0) hg, by simp; omega, fun i hi => ?_⟩
  simp only [List.getElem?_toArray]
  have hl : (cur.toList.take off).length = off := by simp; omega
  by_cases h1 : i < off
  · rw [if_neg (by omega), List.getElem?_append_left (by omega), List.getElem?_take_of_lt h1]
    have := hf i hi
    simpa using this
  · rw [List.getElem?_append_right (by omega), hl]
    by_cases h2 : i < off + cs.length
    · rw [if_pos ⟨by omega, h2⟩, List.getElem?_append_left (by omega)]
      have hlt : i - off < cs.length := by omega
      simp [List.getD, hlt]
    · rw [if_neg (by omega), List.getElem?_append_right (by omega), List.getElem?_drop, show off + cs.length + (i - off - cs.length) = i from by omega]
      have := hf i hi
      simpa using this

theorem Tab.cells {w W : World} {g tb to c X Y M : Nat} {f : Nat → Int} (h : Tab w W g (.slice (some ⟨tb, to, none⟩) X c) X Y M f) {a : Nat} (ha : a < X) : W.cell? ⟨tb, to + a, none⟩ = some (.slice (some ⟨g, a * Y, none⟩) Y Y) := by
  obtain ⟨A, cap, hv, _, _, hc⟩ := app.sl_of_owns h.own
  obtain ⟨b, o, hA, hcell⟩ := hc a _ (slots_at ha)
  injection hv with e1 _ _
  rw [hA] at e1
  injection e1 with e1
  injection e1 with e1 e2
  subst e1; subst e2
  exact hcell
theorem Tab.form {w W : World} {g X Y M : Nat} {v : Value} {f : Nat → Int} (h : Tab w W g v X Y M f) (hX : 0 < X) : ∃ tb to c, v = .slice (some ⟨tb, to, none⟩) X c ∧ g < tb := by
  obtain ⟨A, cap, hv, _, _, hc⟩ := app.sl_of_owns h.own
  obtain ⟨b, o, hA, hcell⟩ := hc 0 _ (slots_at hX)
  refine ⟨b, o, cap, by rw [hv, hA, len_slots], ?_⟩
  have := h.own.lt b (by rw [hv, hA]; rfl)
  omega

/-- the finished table -/
theorem Tab.rows {w W : World} {g X Y M : Nat} {v : Value} {xss : List (List Int)} {rs ps : List Int} (h : Tab w W g v X Y M (F1 xss rs ps Y (X * Y))) (hM : M = X * Y) (hm : M ≤ 9) : OwnRows W w.heap.size W.heap.size v (swrows xss rs ps Y X) := by
  have hs := app.sl_of_owns h.own
  have vb : ∀ p, In v p → v.ownBlock = some p.block := by
    rintro p ⟨b, o, len, cap, rfl, hb, _⟩
    simp [Value.ownBlock, hb]
  have su : ∀ u ∈ slots g Y X, ∃ i, i < X ∧ u = .slice (some ⟨g, i * Y, none⟩) Y Y := by
    intro u hu
    obtain ⟨i, hi, rfl⟩ := List.mem_map.1 hu
    exact ⟨i, List.mem_range.1 hi, rfl⟩
  have inu : ∀ i p, In (.slice (some ⟨g, i * Y, none⟩) Y Y) p → p.block = g ∧ p.spot = none ∧ i * Y ≤ p.off ∧ p.off < i * Y + Y := by
    rintro i p ⟨b, o, len, cap, hv, h1, h2, h3, h4⟩
    injection hv with e1 e2 _
    injection e1 with e1
    injection e1 with e1 e3
    subst e1; subst e2; subst e3
    exact ⟨h1, h2, h3, h4⟩
  have far : ∀ i j : Nat, i < j → i * Y + Y ≤ j * Y := fun i j hij => by
    calc i * Y + Y = (i + 1) * Y := by rw [Nat.add_mul, Nat.one_mul]
      _ ≤ j * Y := Nat.mul_le_mul_right _ hij
  refine ⟨slots g Y X, hs, by rw [len_slots, len_swrows], ?_, ?_, fun p hp => In.lt hs hp, ?_, ?_, ?_, ?_, ?_⟩
  · intro r hr
    rw [len_swrows] at hr
    refine ⟨_, slots_at hr, some ⟨g, r * Y, none⟩, Y, ?_, ?_, ?_, ?_⟩
    · simp [swrows, len_i64s, len_swrow]
    · simp [swrows, len_i64s, len_swrow]
    · have := far 0 1 (by omega)
      have h9 : r * Y + Y ≤ X * Y := by
        calc r * Y + Y = (r + 1) * Y := by rw [Nat.add_mul, Nat.one_mul]
          _ ≤ X * Y := Nat.mul_le_mul_right _ hr
      unfold maxLen; omega
    · intro k u hu
      have hk : k < Y := by
        rcases Nat.lt_or_ge k Y with h' | h'
        · exact h'
        · rw [List.getElem?_eq_none (by simp [swrows, len_i64s, len_swrow]; omega)] at hu; cases hu
      have h9 : r * Y + Y ≤ X * Y := by
        calc r * Y + Y = (r + 1) * Y := by rw [Nat.add_mul, Nat.one_mul]
          _ ≤ X * Y := Nat.mul_le_mul_right _ hr
      refine ⟨g, r * Y, rfl, ?_⟩
      obtain ⟨e1, e2⟩ := dm r Y k hk
      have hc := h.num.cell (i := r * Y + k) (by omega)
      rw [hc]
      unfold F1
      rw [if_pos (by omega), e1, e2]
      rw [← hu]
      simp [swrows, i64s, swrow, hk]
  · intro p hp; have := (h.own.lt _ (vb p hp)).1; have := h.ge; omega
  · intro u hu p hp
    obtain ⟨i, _, rfl⟩ := su u hu
    rw [(inu i p hp).1]; exact h.ge
  · intro u hu p hp
    obtain ⟨i, _, rfl⟩ := su u hu
    rw [(inu i p hp).1]; exact h.num.lt
  · intro u hu p hp
    obtain ⟨i, _, rfl⟩ := su u hu
    obtain ⟨e1, e2, _, _⟩ := inu i p hp
    have := h.num.frozen p.off
    obtain ⟨pb, po, pst⟩ := p
    simp only at e1 e2 this
    subst e1; subst e2
    exact this
  · intro u hu p hp hq
    obtain ⟨i, _, rfl⟩ := su u hu
    have h1 := (inu i p hp).1
    have h2 := (h.own.lt _ (vb p hq)).1
    omega
  · intro r s a b hne ha hb p hp hq
    have hr : r < X := by
      rcases Nat.lt_or_ge r X with h' | h'
      · exact h'
      · rw [List.getElem?_eq_none (by rw [len_slots]; omega)] at ha; cases ha
    have hs' : s < X := by
      rcases Nat.lt_or_ge s X with h' | h'
      · exact h'
      · rw [List.getElem?_eq_none (by rw [len_slots]; omega)] at hb; cases hb
    rw [slots_at hr] at ha
    rw [slots_at hs'] at hb
    injection ha with ha
    injection hb with hb
    subst ha; subst hb
    obtain ⟨_, _, h3, h4⟩ := inu r p hp
    obtain ⟨_, _, h5, h6⟩ := inu s p hq
    rcases Nat.lt_or_gt_of_ne hne with e | e
    · have := far r s e; omega
    · have := far s r e; omega


set_option maxRecDepth 100000 in
set_option maxHeartbeats 4000000 in
theorem mult (v vr vp : Value) (xss : List (List Int)) (rs ps : List Int) (w : World) (h : IRows w v xss) (hr : Ints w vr rs) (hp : Ints w vp ps) (hok : okSign xss) (hrs : signs xss.length rs) (hps : signs ((wide xss : Nat) : Int) ps) :
    Calls Try.prog 99 #[v, vr, vp] w fun e w' => ∃ u', e = .returned u' ∧ OwnRows w' w.heap.size w'.heap.size u' (swrows xss rs ps (wide xss) xss.length) ∧ Below w.heap.size w w' := by
  have hX := sgn.len3 hok
  have hY := sgn.wide3 hok
  have hp0 := sgn.pos hok
  have hrl : rs.length = xss.length := by have := hrs.1; omega
  have hpl : ps.length = wide xss := by have := hps.1; omega
  obtain ⟨d, q, cap, rfl, ⟨m0, m1, mc⟩, hrm⟩ := sgn.cell0 hok h
  obtain ⟨b1, o1, c1, rfl, hc1⟩ := sws.icells hr (by omega)
  obtain ⟨b2, o2, c2, rfl, hc2⟩ := sws.icells hp (by omega)
  have HBD := Lib.hid (fun (r c : Nat) (h1 : r < xss.length) (h2 : c < wide xss) => show IntKind.i64.wrap (rs.getD r 0 * ps.getD c 0) = rs.getD r 0 * ps.getD c 0 ∧ IntKind.i64.wrap (nn xss r c * (rs.getD r 0 * ps.getD c 0)) = nn xss r c * (rs.getD r 0 * ps.getD c 0) from by
    obtain ⟨bd1, bd2⟩ := sgn.nn_bd hok h1 h2
    have s1 := sws.sign_at hrs (k := r) (by omega)
    have s2 := sws.sign_at hps (k := c) (by omega)
    rcases s1 with e1 | e1 <;> rcases s2 with e2 | e2 <;> rw [e1, e2] <;> exact ⟨IntWalk.i64_in _ (by omega), IntWalk.i64_in _ (by omega)⟩)
  have HSW : Hid (∀ r c, nn xss r c * (rs.getD r 0 * ps.getD c 0) = sw xss rs ps r c) := Lib.hid (fun _ _ => (Int.mul_assoc _ _ _).symm)
  rw [hrl, hpl]
  rw [hrl] at hc1
  rw [hpl] at hc2
  clear h hr hp hok hrs hps hrl hpl
  obtain ⟨Y, hYe⟩ : ∃ Y, wide xss = Y := ⟨_, rfl⟩
  obtain ⟨X, hXe⟩ : ∃ X, xss.length = X := ⟨_, rfl⟩
  rw [hYe] at hY HBD hrm hc2 mc ⊢
  rw [hXe] at hX HBD hrm hc1 hp0 ⊢
  clear hYe hXe
  have hkz0 : (0 : Int) < (X : Int) := by omega
  have HR := Lib.hid hrm
  have HC1 := Lib.hid hc1
  have HC2 := Lib.hid hc2
  have hM9 : X * Y ≤ 3 * 3 := Nat.mul_le_mul hX hY.2
  have HNT := Lib.hid (newTable X Y w ⟨hp0, hX⟩ hY)
  obtain ⟨M, hM⟩ : ∃ M, X * Y = M := ⟨_, rfl⟩
  rw [hM] at hM9 HNT
  have HM := Lib.hid hM
  have HMU := Lib.hid (fun (r : Nat) (hr : r < X) => show r * Y + Y ≤ M from by
    rw [← hM]; calc r * Y + Y = (r + 1) * Y := by rw [Nat.add_mul, Nat.one_mul]
      _ ≤ X * Y := Nat.mul_le_mul_right _ hr)
  clear hrm hc1 hc2 hM
  go_enter Try.func99, Try.ntmps99
  go_wp2_with fail
  refine HNT.out.mono ?_
  rintro e w1 ⟨v1, rfl, hT⟩
  obtain ⟨tb, to, tc, rfl, hgt⟩ := hT.form (by omega)
  have T0 : Hid (Tab w w1 w.heap.size (.slice (some ⟨tb, to, none⟩) X tc) X Y M (F1 xss rs ps Y (0 * Y))) := Lib.hid ⟨hT.below, hT.ge, hT.num.congr (fun i hi => by simp [F1]), hT.own⟩
  clear hT HNT mc
  go_wp2_with fail
  go_loopw [8, 9, 10, 20] (fun z8 z9 z10 i wr => ∃ a : Nat, a ≤ X ∧ i = .int .i64 a ∧ (∃ z', z8 = z') ∧ (∃ z', z9 = z') ∧ (∃ z', z10 = z') ∧ Hid (Tab w wr w.heap.size (.slice (some ⟨tb, to, none⟩) X tc) X Y M (F1 xss rs ps Y (a * Y)))) (fun _ _ _ i _ => X - (intOf i).toNat)
  case atStart => exact ⟨0, Nat.zero_le _, rfl, ⟨_, rfl⟩, ⟨_, rfl⟩, ⟨_, rfl⟩, T0⟩
  case round =>
    obtain ⟨a, ha, rfl, ⟨z8, rfl⟩, ⟨z9, rfl⟩, ⟨z10, rfl⟩, hT⟩ := hrel
    clear T0
    obtain ⟨wo, rfl⟩ : ∃ wo : World, wo = wr := ⟨_, rfl⟩
    by_cases hlt : a < X
    · have hkz : (a : Int) < (X : Int) := by omega
      obtain ⟨b, o, cap', gr, gc⟩ := HR.out a hlt
      have e1 := hT.out.cells hlt
      have e2 := below_cell hT.out.below _ _ gr
      have GC := Lib.hid gc
      obtain ⟨cur, hcg, hcs, hcf⟩ := hT.out.num
      have hmu := HMU.out a hlt
      obtain ⟨nums, hnums⟩ : ∃ nums : List Value, nums = (List.range Y).map (fun c => Value.int .i64 (nn xss a c)) := ⟨_, rfl⟩
      have hnl : nums.length = Y := by rw [hnums]; simp
      have hna : ∀ j u, nums[j]? = some u → j < Y ∧ u = .int .i64 (nn xss a j) := fun j u hu => by
        have hj : j < Y := by
          rcases Nat.lt_or_ge j Y with h' | h'
          · exact h'
          · rw [List.getElem?_eq_none (by omega)] at hu; cases hu
        rw [hnums] at hu
        simp [hj] at hu
        exact ⟨hj, hu.symm⟩
      have HSP := Lib.hid (splice hcg hcs hcf nums (off := a * Y) (by rw [hnl]; exact hmu))
      have HNA := Lib.hid hna
      have hsrc : Hid (∀ (j : Nat) (u : Value), nums[j]? = some u → wo.cell? ((⟨b, o, none⟩ : Addr).add j) = some u) := Lib.hid (fun j u hu => by
        obtain ⟨h1, rfl⟩ := HNA.out j u hu
        rw [row.opn_add]
        exact below_cell hT.out.below _ _ (GC.out j h1))
      have hone : Hid (∀ u ∈ nums, u.oneCell' = true) := Lib.hid (fun u hu => by rw [hnums] at hu; obtain ⟨c, _, rfl⟩ := List.mem_map.1 hu; rfl)
      have T1 : Hid (Tab w (wo.setRow w.heap.size (cur.toList.take (a * Y) ++ (nums ++ cur.toList.drop (a * Y + nums.length))).toArray) w.heap.size (.slice (some ⟨tb, to, none⟩) X tc) X Y M (F2 xss rs ps Y a 0)) := Lib.hid (by
        refine ⟨below_setRow hT.out.below (Nat.le_refl _) _, Nat.le_refl _, HSP.out.congr (fun i hi => ?_), owns_block hT.out.own (fun bb hbb => setRow_other _ _ _ _ ?_)⟩
        · rw [hnl, ← F2_start]
          by_cases hin : a * Y ≤ i ∧ i < a * Y + Y
          · rw [if_pos hin, if_pos hin, hnums]
            have hlt' : i - a * Y < Y := by omega
            simp [List.getD, hlt']
          · rw [if_neg hin, if_neg hin]
        · have := (hT.out.own.lt _ hbb).1; omega)
      obtain ⟨SS, hSS⟩ : ∃ SS, a * Y = SS := ⟨_, rfl⟩
      have HS := Lib.hid hSS
      rw [hSS] at e1 T1 hmu
      have hlen : nums.length = Nat.min Y Y := by rw [hnl]; simp
      have hfit : SS + nums.length ≤ cur.size := by rw [hnl, hcs]; exact hmu
      have HOP : Hid ((Try.prog.info? 3).map (·.size) = some 1) := Lib.hid (by kernel_rfl)
      clear hna hnums HSP hcs hcf gc gr hSS
      go_wp2_with (with_reducible refine wpList_copy_own rfl (.tmp 25) (.tmp 29) 22 22 rfl 3 Try.underlying22 HOP.out w.heap.size SS Y Y ⟨b, o, none⟩ Y cap' rfl rfl cur 3 hcg nums hlen hsrc.out hfit hone.out ?_; generalize wo.setRow w.heap.size (cur.toList.take SS ++ (nums ++ cur.toList.drop (SS + nums.length))).toArray = w2 at T1 ⊢)
      clear hlen hfit hcg e1 e2 hsrc hone
      clear hT
      go_loopw [10, 33] (fun z10 j wi => ∃ c : Nat, c ≤ Y ∧ j = .int .i64 c ∧ (∃ z', z10 = z') ∧ Hid (Tab w wi w.heap.size (.slice (some ⟨tb, to, none⟩) X tc) X Y M (F2 xss rs ps Y a c))) (fun _ j _ => Y - (intOf j).toNat)
      case atStart => exact ⟨0, Nat.zero_le _, rfl, ⟨_, rfl⟩, T1⟩
      case round =>
        clear T1
        obtain ⟨c, hcl, rfl, ⟨z, rfl⟩, hT⟩ := hrel
        obtain ⟨wi, rfl⟩ : ∃ wi : World, wi = wr := ⟨_, rfl⟩
        by_cases hlc : c < Y
        · have hkc : (c : Int) < (Y : Int) := by omega
          have hat := hT.out.num.cell (i := SS + c) (by omega)
          have hF := F2_at xss rs ps Y a c hlc
          rw [HS.out] at hF
          rw [hF] at hat
          have f1 := below_cell hT.out.below _ _ (HC1.out a hlt)
          have f2 := below_cell hT.out.below _ _ (HC2.out c hlc)
          have rf : ∀ k, wi.frozen? ⟨w.heap.size, k, none⟩ = false := fun k => hT.out.num.frozen k
          obtain ⟨k1, k2⟩ := HBD.out a c hlt hlc
          have T3 : Hid (Tab w (wi.setCell ⟨w.heap.size, SS + c, none⟩ (.int .i64 (nn xss a c * (rs.getD a 0 * ps.getD c 0)))) w.heap.size (.slice (some ⟨tb, to, none⟩) X tc) X Y M (F2 xss rs ps Y a (c + 1))) := Lib.hid (by
            refine ⟨Below.setCell hT.out.below (Nat.le_refl _) _, Nat.le_refl _, (hT.out.num.set (SS + c) _).congr (fun i hi => ?_), owns_block hT.out.own (fun bb hbb => ?_)⟩
            · rw [HSW.out a c, ← F2_step xss rs ps Y a c i hlc, HS.out]
              by_cases e : i = SS + c
              · rw [if_pos e, if_pos e]
              · rw [if_neg e, if_neg e]
            · have := (hT.out.own.lt _ hbb).1
              exact blk_setCell_other _ _ _ _ (by show bb ≠ w.heap.size; omega))
          have l0 : b1 < w.heap.size := World.block_lt_of_cell? _ _ (HC1.out a hlt)
          have l1 : b2 < w.heap.size := World.block_lt_of_cell? _ _ (HC2.out c hlc)
          clear hT hF
          generalize nn xss a c = n at *
          generalize rs.getD a 0 = x at *
          generalize ps.getD c 0 = y at *
          go_wp2_with fail
          go_region
          all_goals
            go_wp2_with fail
            go_roundw
            case rel => exact ⟨c + 1, by omega, by go_num, ⟨_, rfl⟩, Lib.hid ⟨by first | exact T3.out.below | exact below_dr T3.out.below, Nat.le_refl _, T3.out.num, T3.out.own⟩⟩
            case measure => simp [intOf]; omega
        · have hkc : ¬ (c : Int) < (Y : Int) := by omega
          obtain rfl : c = Y := by omega
          have T4 : Hid (Tab w wi w.heap.size (.slice (some ⟨tb, to, none⟩) X tc) X c M (F1 xss rs ps c ((a + 1) * c))) := Lib.hid ⟨hT.out.below, hT.out.ge, hT.out.num.congr (fun i hi => by rw [F2_end]), hT.out.own⟩
          clear hT
          go_wp2_with fail
          go_roundw
          case rel => exact ⟨a + 1, by omega, by go_num, ⟨_, rfl⟩, ⟨_, rfl⟩, ⟨_, rfl⟩, T4⟩
          case measure => simp [intOf]; omega
    · have hkz : ¬ (a : Int) < (X : Int) := by omega
      obtain rfl : a = X := by omega
      go_wp2_with fail
      go_ret
      exact ⟨_, rfl, hT.out.rows HM.out.symm (by omega), hT.out.below⟩


end Go.Proofs.Ytfkdhdiacelcjaa.tab
