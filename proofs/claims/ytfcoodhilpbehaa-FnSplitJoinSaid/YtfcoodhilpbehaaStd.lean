/- SplitString of the program and of the model. -/
import Derived.Test.YtfcoodhilpbehaaStc
import Derived.Maps.OwnIn
namespace Go.Proofs.Ytfcoodhilpbehaa.std
open Go.RowKit Go.Deep Go.Shelf Go.Proofs.Ytfcoodhilpbehaa.base
open Go.Proofs.Ytfcoodhilpbehaa.sta Go.Proofs.Ytfcoodhilpbehaa.stb Go.Proofs.Ytfcoodhilpbehaa.stc
attribute [local go_sem] Oper.semAt_some

/-- what SplitString answers -/
def good (s sep : ByteArray) : Prop := sep.size = 1 ∧ s.size ≤ 4000
open Classical in
noncomputable def resL (s sep : ByteArray) : List ByteArray := if good s sep then split s (sep.data.toList.headD 0) else []
open Classical in
noncomputable def resB (s sep : ByteArray) : Bool := if good s sep then true else false
theorem resL_yes {s sep : ByteArray} (h : good s sep) : resL s sep = split s (sep.data.toList.headD 0) := if_pos h
theorem resL_no {s sep : ByteArray} (h : ¬ good s sep) : resL s sep = [] := if_neg h
theorem resB_yes {s sep : ByteArray} (h : good s sep) : resB s sep = true := if_pos h
theorem resB_no {s sep : ByteArray} (h : ¬ good s sep) : resB s sep = false := if_neg h
theorem len_res (s sep : ByteArray) : (resL s sep).length ≤ 1048575 := by
  by_cases h : good s sep
  · rw [resL_yes h]
    have := (st_le s (sep.data.toList.headD 0) s.size).2
    have := h.2
    unfold split
    rw [List.length_append]
    simp only [List.length_cons, List.length_nil]
    omega
  · rw [resL_no h]; decide
theorem head_at (s : ByteArray) (h : 0 < s.size) : s[0] = s.data.toList.headD 0 := by
  have := at_all s 0 h
  cases e : s.data.toList with
  | nil => rw [e] at this; cases this
  | cons x r => rw [e] at this; simp at this; simp [this]
theorem own_strs {w : World} {B n : Nat} {v : Value} {ss : List ByteArray} (h : w.ownsRow B 9 1 v n (ss.map Value.string)) : OwnStrs w B w.heap.size v ss := by
  have hi : Sl w v (ss.map Value.string) := by
    obtain ⟨h1, h2⟩ := h
    rw [Nat.mul_one] at h1
    rcases h2 with ⟨rfl, rfl⟩ | ⟨g, cap, cur, rfl, hg, hh, hn, hm, hs, ht⟩
    · have : ss.map Value.string = [] := List.eq_nil_of_length_eq_zero h1
      rw [this]; exact Sl.nil w
    · refine ⟨some ⟨g, 0, none⟩, cap, by rw [h1], by omega, hm, fun k u hu => ⟨g, 0, rfl, ?_⟩⟩
      have hc := (show w.ownsRow B 9 1 (.slice (some ⟨g, 0, none⟩) n cap) n (ss.map Value.string) from ⟨by omega, .inr ⟨g, cap, cur, rfl, hg, hh, hn, hm, hs, ht⟩⟩).cells (g := g) (by simp [Value.ownBlock]) k u hu
      by_cases hk : k = 0
      · subst hk; simpa [Addr.add] using hc
      · simpa [Addr.add, hk] using hc
  refine ⟨hi, ?_, fun p hp => In.lt hi hp, ?_⟩
  · rintro p ⟨b, o, len, cap, rfl, hb, _⟩
    have := h.lt b (by simp [Value.ownBlock])
    omega
  · rintro ⟨pb, po, ps⟩ ⟨b, o, len, cap, rfl, hb, hs, _⟩
    rcases h.2 with ⟨e, _⟩ | ⟨g, cap', cur, e, _, hh, _⟩
    · cases e
    · injection e with e1
      injection e1 with e1
      injection e1 with e1
      have hb' : pb = g := by rw [← e1]; exact hb
      show World.frozen? _ _ = _
      simp only [World.frozen?, hb', hh]
      simp

set_option maxHeartbeats 1000000 in
theorem parts_in (F : Fence) (n : Nat) (hf : F.fn 15) (hro : F.round = none) (s : ByteArray) (b : UInt8) (w : World) :
    CallsIn F n Try.prog 15 #[.string s, .int .u8 b.toNat] w fun e w' => e = .returned (.func (.func 21) #[] #[.pointer (some ⟨w.heap.size, 0, none⟩), .pointer (some ⟨w.heap.size + 1, 0, none⟩)]) ∧ w' = (w.alloc (.cells #[.string s] 9)).alloc (.cells #[.int .u8 b.toNat] 5) := by
  refine callsIn_of_wp Try.func15 rfl hf ?_ hro
  simp only [Try.ntmps15, List.size_toArray, List.length_cons, List.length_nil, Nat.reduceAdd, Nat.reduceSub, Array.replicate_succ, Array.replicate_zero, List.push_toArray, List.append_toArray, List.nil_append, List.cons_append]
  gi_wp2
  go_ret
  exact ⟨rfl, rfl⟩
theorem parts_stops (F : Fence) (n : Nat) (hf : F.fn 21) (hro : F.round = none) (hn : 1 ≤ n) (Bs Bb : Nat) (s : ByteArray) (b : UInt8) (hs : s.size ≤ 1048576) (w : World) (hBs : Bs < w.heap.size) (hBb : Bb < w.heap.size)
    (hcs : w.cell? ⟨Bs, 0, none⟩ = some (.string s)) (hcb : w.cell? ⟨Bb, 0, none⟩ = some (.int .u8 b.toNat)) :
    SeqStopsK F n Try.prog 21 #[.pointer (some ⟨Bs, 0, none⟩), .pointer (some ⟨Bb, 0, none⟩)] (fun x : ByteArray => #[Value.string x]) (K2 Bs Bb) (fun ys => ys = split s b) (fun pre => pre <+: split s b) (s.size + 1) w := fun l J Jx W hW hJ _ hY h0 =>
  parts1_in F n hf hro hn l Bs Bb s b hs J Jx (fun pre W1 h => hJ pre W1 _ none h ⟨rfl, rfl, rfl, Nat.le_refl _, fun _ _ _ => rfl⟩ (fun r e => by cases e)) hY W ((hW.cell (p := ⟨Bs, 0, none⟩) hBs).trans hcs) ((hW.cell (p := ⟨Bb, 0, none⟩) hBb).trans hcb) h0



set_option maxRecDepth 100000 in
set_option maxHeartbeats 4000000 in
theorem split_in (F : Fence) (n : Nat) (h1f : F.fn 6) (h2f : F.fn 15) (h3f : F.fn 21) (hro : F.round = none) (hn : 3 ≤ n) (s sep : ByteArray) (hg : good s sep) (w : World) :
    CallsIn F n Try.prog 6 #[.string s, .string sep] w fun e W' => ∃ v, e = .returned (.tuple #[v, .bool true]) ∧ W'.ownsRow w.heap.size 9 1 v (split s (sep.data.toList.headD 0)).length ((split s (sep.data.toList.headD 0)).map Value.string) ∧ Below w.heap.size w W' := by
  have h1 : 1 ≤ n := by omega
  obtain ⟨i0, hi, hz0, hz1, hz2⟩ := info_parts info9
  obtain ⟨hs1, hs2⟩ := hg
  have hz : ¬ (4000 : Int) < (s.size : Int) := by omega
  have hz1' : (sep.size : Int) = 1 := by omega
  have hlt : 0 < sep.size := by omega
  have hb := head_at sep hlt
  obtain ⟨b, hb0⟩ : ∃ b, sep.data.toList.headD 0 = b := ⟨_, rfl⟩
  rw [hb0] at hb ⊢
  clear hb0
  refine callsIn_of_wp_marks Try.func6 rfl h1f ?_ hro
  simp only [Try.ntmps6, List.size_toArray, List.length_cons, List.length_nil, Nat.reduceAdd, Nat.reduceSub, Array.replicate_succ, Array.replicate_zero, List.push_toArray, List.append_toArray, List.nil_append, List.cons_append]
  have hmixed := mixed
  gi_wp2_with (gi_at_call 15; refine (parts_in F (n - 1) h2f hro _ b _).mono ?_; rintro e w' ⟨rfl, rfl⟩)
  have bO : Boxed ((w.alloc (.cells #[] 9)).alloc (.cells #[.slice (some ⟨w.heap.size, 0, none⟩) 0 0] 26)) (w.heap.size + 1) 26 (.slice (some ⟨w.heap.size, 0, none⟩) 0 0) := by
    have := Boxed.new (w.alloc (.cells #[] 9)) 26 (.slice (some ⟨w.heap.size, 0, none⟩) 0 0)
    simpa using this
  have bS : Boxed (((w.alloc (.cells #[] 9)).alloc (.cells #[.slice (some ⟨w.heap.size, 0, none⟩) 0 0] 26)).alloc (.cells #[.string s] 9)) (w.heap.size + 1 + 1) 9 (.string s) := by
    have := Boxed.new ((w.alloc (.cells #[] 9)).alloc (.cells #[.slice (some ⟨w.heap.size, 0, none⟩) 0 0] 26)) 9 (.string s)
    simpa using this
  have bB : Boxed ((((w.alloc (.cells #[] 9)).alloc (.cells #[.slice (some ⟨w.heap.size, 0, none⟩) 0 0] 26)).alloc (.cells #[.string s] 9)).alloc (.cells #[.int .u8 b.toNat] 5)) (w.heap.size + 1 + 1 + 1) 5 (.int .u8 b.toNat) := by
    have := Boxed.new (((w.alloc (.cells #[] 9)).alloc (.cells #[.slice (some ⟨w.heap.size, 0, none⟩) 0 0] 26)).alloc (.cells #[.string s] 9)) 5 (.int .u8 b.toNat)
    simpa using this
  have bS' := bS.alloc (.cells #[.int .u8 b.toNat] 5)
  have hB0 : Below w.heap.size w ((((w.alloc (.cells #[] 9)).alloc (.cells #[.slice (some ⟨w.heap.size, 0, none⟩) 0 0] 26)).alloc (.cells #[.string s] 9)).alloc (.cells #[.int .u8 b.toNat] 5)) := below_al (below_al (below_al (below_al (Below.refl _ _) _) _) _) _
  have hrow0 : Hid (((((w.alloc (.cells #[] 9)).alloc (.cells #[.slice (some ⟨w.heap.size, 0, none⟩) 0 0] 26)).alloc (.cells #[.string s] 9)).alloc (.cells #[.int .u8 b.toNat] 5)).ownsRow w.heap.size 9 1 (.slice (some ⟨w.heap.size, 0, none⟩) 0 0) 0 []) := Lib.hid ((((World.ownsRow_made (base := w.heap.size) (e := 9) (size := 1) w #[] 0 (Nat.le_refl _) (Nat.zero_le _) rfl).alloc _).alloc _).alloc _)
  have cS := bS'.cell
  have cB := bB.cell
  obtain ⟨W0, hW0⟩ : ∃ W0, ((((w.alloc (.cells #[] 9)).alloc (.cells #[.slice (some ⟨w.heap.size, 0, none⟩) 0 0] 26)).alloc (.cells #[.string s] 9)).alloc (.cells #[.int .u8 b.toNat] 5)) = W0 := ⟨_, rfl⟩
  have hsz : W0.heap.size = w.heap.size + 1 + 1 + 1 + 1 := by rw [← hW0]; simp
  have bO' := (bO.alloc (.cells #[.string s] 9)).alloc (.cells #[.int .u8 b.toNat] 5)
  rw [hW0] at bO' hB0 hrow0 cS cB ⊢
  clear bO bS bB bS' hW0
  refine wpIn_rangeFunc_ownG hro h1 (gf := 21) (lb := #[.pointer (some ⟨w.heap.size + 1 + 1, 0, none⟩), .pointer (some ⟨w.heap.size + 1 + 1 + 1, 0, none⟩)]) rfl h3f (enters_of Try.func21 (by kernel_rfl) rfl)
    (parts_stops F (n - 1) h3f hro (by omega) (w.heap.size + 1 + 1) (w.heap.size + 1 + 1 + 1) s b (by omega) W0 (by omega) (by omega) cS cB) (fun h k => K2.trans h k) (K2.put (by omega) (by omega)) (Below.refl _ _) (fun _ => rfl)
    (fun (pre : List ByteArray) W => (∃ v, Boxed W (w.heap.size + 1) 26 v ∧ W.ownsRow w.heap.size 9 1 v pre.length (pre.map Value.string) ∧ ∀ q, v.ownBlock = some q → q = w.heap.size ∨ W0.heap.size ≤ q) ∧ (Below w.heap.size w W ∧ W0.heap.size ≤ W.heap.size))
    (fun _ _ _ => False)
    (OwnFrom.and (Own.from (holdsRow_own w.heap.size (w.heap.size + 1) 26 9 1 (fun pre : List ByteArray => pre.length) (fun pre : List ByteArray => pre.map Value.string) (fun _ v => ∀ q, v.ownBlock = some q → q = w.heap.size ∨ W0.heap.size ≤ q)) _) (OwnFrom.and (ownFrom_below (Nat.le_refl _) (by omega)) (fun _ _ _ _ hs hg _ => Nat.le_trans hs hg.size)))
    (fun _ _ _ _ _ hs _ _ => hs)
    ⟨⟨_, bO', hrow0.out, fun q hq => .inl (by simpa [Value.ownBlock] using hq.symm)⟩, hB0, Nat.le_refl _⟩
    (fun x : ByteArray => { tmps := #[Value.string s, Value.string sep, undef, undef, Value.slice none 0 0, Value.bool false,
          Value.pointer (some { block := w.heap.size + 1, off := 0 }), Value.string x, Value.string s,
          Value.int IntKind.i64 s.size, Value.bool false, Value.bool false, Value.string sep, Value.int IntKind.i64 1,
          Value.bool false, Value.bool false, undef, Value.slice (some { block := w.heap.size, off := 0 }) 0 0,
          Value.string s, Value.string sep, Value.int IntKind.u8 b.toNat,
          Value.func (Fn.func 21) #[]
            #[Value.pointer (some { block := w.heap.size + 1 + 1, off := 0 }),
              Value.pointer (some { block := w.heap.size + 1 + 1 + 1, off := 0 })],
          Value.string x, undef, undef, undef, undef, undef], defers := [] }) ?assign ?body ?done ?stop
  case assign =>
    intro l x W K hK
    gi_wp2
    exact hK
  case body =>
    rintro l pre x W ⟨⟨v, hv, hrow, hwh⟩, hB, hWS⟩ hlt
    have hc := hv.cell
    gi_wp2_with (gi_at_builtin; refine wpListIn_append_own_at _ rfl _ _ 26 rfl w.heap.size 9 i0 (.string ⟨#[]⟩) 1 16 Try.underlying26 hi hz0 hz1 hz2 rfl (by decide) _ _ _ rfl (hrow.alloc _) ⟨W.heap.size, 0, none⟩ 1 1 [.string x] rfl rfl (cell_one_new _ _ _) (by simp [Value.oneCell']) (by unfold maxLen; omega) (by omega) (by have := hB.size; simp; omega) ?_; intro v' w1 hown' hgrow _ hat; obtain ⟨g', cap', rfl⟩ := ownsRow_succ hown'; obtain ⟨hv1, hv2, hr2, hk2, hb2⟩ := hv.appended (by decide) hrow hB.size (by omega) hown' hgrow; have hc1 := hv1.cell; have hf1 := hv1.frozen)
    have far : ∀ k, k < W0.heap.size → k ≠ w.heap.size → k ≠ w.heap.size + 1 → (w1.setCell ⟨w.heap.size + 1, 0, none⟩ (.slice (some ⟨g', 0, none⟩) (pre.length + 1) cap')).heap[k]? = W.heap[k]? := by
      intro k hk h1 h2
      rw [Below.heap_setCell _ _ _ _ h2, hgrow.block k (by simp; omega) (fun e => by have := hwh k e.symm; omega)]
      exact Below.heap_alloc W _ k (by omega)
    refine ⟨hk2.from _, ⟨far _ (by omega) (by omega) (by omega), far _ (by omega) (by omega) (by omega)⟩, ⟨_, hv2, by simpa using hr2, fun q hq => ?_⟩, hB.trans hb2, Nat.le_trans hWS hb2.size⟩
    rcases hat with e | e
    · exact hwh q (e.symm.trans hq)
    · have e2 := e.symm.trans hq
      simp at e2
      exact .inr (by omega)
  case done =>
    rintro D ys W hD rfl ⟨⟨v, hv, hrow, hwh⟩, hB, hWS⟩ hK
    have hc := hv.cell
    gi_wp2
    refine ⟨by simp, .inl ⟨_, _, rfl, run_takeDeferred hK, ?_⟩⟩
    refine ⟨_, results_tmp2 rfl _ _ _, v, rfl, ownsRow_putObj hrow _ hK rfl, hB.trans (belowK_b (w := w) (Nat.le_refl _) W D _ _ (by omega) hK rfl rfl)⟩
  case stop =>
    rintro D c pre W _ _ h _
    exact h.elim



set_option maxHeartbeats 1000000 in
theorem impl_any (s sep : ByteArray) (w : World) (hs : s.size ≤ 1048576) (hp : sep.size ≤ 1048576) :
    Calls Try.prog 6 #[.string s, .string sep] w fun e W' => ∃ v, e = .returned (.tuple #[v, .bool (resB s sep)]) ∧ OwnStrs W' w.heap.size W'.heap.size v (resL s sep) ∧ Below w.heap.size w W' := by
  by_cases hg : good s sep
  · rw [resL_yes hg, resB_yes hg]
    refine (callsIn_wide.1 (split_in Fence.wide 3 trivial trivial trivial rfl (Nat.le_refl _) s sep hg w)).mono ?_
    rintro e W' ⟨v, rfl, ho, hb⟩
    exact ⟨v, rfl, own_strs ho, hb⟩
  · have HR := Lib.hid (And.intro (resL_no hg) (resB_no hg))
    have HO : Hid (OwnStrs (w.alloc (.cells #[] 9)) w.heap.size (w.alloc (.cells #[] 9)).heap.size (.slice (some ⟨w.heap.size, 0, none⟩) 0 0) []) := Lib.hid (own_strs (n := 0) (World.ownsRow_made (base := w.heap.size) (e := 9) (size := 1) w #[] 0 (Nat.le_refl _) (Nat.zero_le _) rfl))
    by_cases h4 : (4000 : Int) < (s.size : Int)
    · have h4' : decide ((s.size : Int) > 4000) = true := by simp; omega
      clear hg
      go_enter Try.func6, Try.ntmps6
      go_wp2_with fail
      refine bodyPost_ret (results_tmp2 rfl _ _ _) rfl ?_
      rw [HR.out.1, HR.out.2]
      exact ⟨_, rfl, HO.out, below_al (Below.refl _ _) _⟩
    · have h1 : ¬ (sep.size : Int) = 1 := fun e => hg ⟨by omega, by omega⟩
      have h1' : ((sep.size : Int) != 1) = true := by simpa using h1
      clear hg
      go_enter Try.func6, Try.ntmps6
      go_wp2_with fail
      all_goals
        refine bodyPost_ret (results_tmp2 rfl _ _ _) rfl ?_
        rw [HR.out.1, HR.out.2]
        exact ⟨_, rfl, HO.out, below_al (Below.refl _ _) _⟩




end Go.Proofs.Ytfcoodhilpbehaa.std
