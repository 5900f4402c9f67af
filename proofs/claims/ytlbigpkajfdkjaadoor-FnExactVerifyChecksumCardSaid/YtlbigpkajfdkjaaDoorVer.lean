/- Proved here: for every string, the law FnExactVerifyChecksum returns true: the program VerifyChecksum answers as its model in every field, and the argument reads afterwards as before. Conditions: the card ties the listed library tables to the program text. -/
import Derived.Test.YtlbigpkajfdkjaaDoorSplit
import Derived.Lib.IndexLaws
namespace Go.Proofs.YtlbigpkajfdkjaaDoor.ver
open Go.ChangeShapes Go.WideShapes Go.ChangeAt Go.RowKit
open Go.ChangeMaps (open_string shut_string)
open YtlbigpkajfdkjaaDoor.split (front)

def fr (s : ByteArray) : ByteArray := front s 35
theorem ba_ext {a b : ByteArray} (h : a.data.toList = b.data.toList) : a = b := by
  apply ByteArray.ext; apply Array.ext'; exact h
theorem fr_hit {s : ByteArray} {i : Nat} (h : Lib.indexByte s.data.toList 35 = i) : s.extract 0 i = fr s := by
  obtain ⟨h1, h2⟩ := Lib.indexByte_some h
  apply ba_ext
  rw [split.extract_data, List.drop_zero, Nat.sub_zero]
  exact (split.takeWhile_upto _ _ i h1 (fun k hk e => h2 k hk e)).symm
theorem fr_miss {s : ByteArray} (h : Lib.indexByte s.data.toList 35 = -1) : s = fr s := by
  apply ba_ext
  exact (split.takeWhile_all _ _ (fun k _ e => Lib.indexByte_none h k e)).symm
theorem idx_lt {s : ByteArray} {i : Nat} (h : Lib.indexByte s.data.toList 35 = i) : i < s.size := by
  obtain ⟨h1, _⟩ := Lib.indexByte_some h
  rw [← parse.len_data]
  rcases Nat.lt_or_ge i s.data.toList.length with g | g
  · exact g
  · rw [List.getElem?_eq_none g] at h1; cases h1
theorem fr_le (s : ByteArray) : (fr s).size ≤ s.size := by
  rw [← parse.len_data, ← parse.len_data]
  exact (List.takeWhile_sublist _).length_le
theorem not_mem_front {b : UInt8} : ∀ l : List UInt8, ¬ b ∈ l.takeWhile (fun x => !(x == b))
  | [], h => by simp at h
  | c :: r, h => by
    rw [List.takeWhile_cons] at h
    split at h
    · rename_i hc
      rcases List.mem_cons.1 h with rfl | h
      · simp at hc
      · exact not_mem_front r h
    · simp at h
theorem fr_stands (s : ByteArray) : app.stands (fr s) 35 = false := by
  unfold app.stands
  rw [List.contains_eq_mem, decide_eq_false_iff_not]
  intro h
  have h : (35 : UInt8) ∈ s.data.toList.takeWhile (fun x => !(x == 35)) := h
  exact not_mem_front _ h

/-- the sealed text of the front is the whole -/
def ver (s : ByteArray) : Prop := s.size ≤ 4000 ∧ app.sealS (fr s) = s
open Classical in
noncomputable def verS (s : ByteArray) : ByteArray := if ver s then fr s else ⟨#[]⟩
open Classical in
noncomputable def verB (s : ByteArray) : Bool := if ver s then true else false
theorem verS_yes {s : ByteArray} (h : ver s) : verS s = fr s := if_pos h
theorem verS_no {s : ByteArray} (h : ¬ ver s) : verS s = ⟨#[]⟩ := if_neg h
theorem verB_yes {s : ByteArray} (h : ver s) : verB s = true := if_pos h
theorem verB_no {s : ByteArray} (h : ¬ ver s) : verB s = false := if_neg h
theorem good_of {s : ByteArray} (h : ver s) : app.good (fr s) := ⟨Nat.le_trans (fr_le s) h.1, fr_stands s, by rw [h.2]; exact h.1⟩
theorem ver_of {s : ByteArray} (h : app.good (fr s)) (g : app.sealS (fr s) = s) : ver s := ⟨by have := h.2.2; rwa [g] at this, g⟩

theorem eq_yes {a b : ByteArray} (h : a = b) : (a.toList == b.toList) = true := by rw [h]; exact beq_self_eq_true _
theorem eq_no {a b : ByteArray} (h : ¬ a = b) : (a.toList == b.toList) = false := by
  rw [parse.toList_data, parse.toList_data, beq_eq_false_iff_ne]
  exact fun e => h (ba_ext e)

/-! ### the model -/
set_option maxHeartbeats 1000000 in
theorem spec_any (s : ByteArray) (w : World) (hs : s.size ≤ 1048576) :
    Calls Tryd.prog 20 #[.string s] w fun e w' => e = .returned (.tuple #[.string (verS s), .bool (verB s)]) ∧ Below w.heap.size w w' := by
  by_cases h4 : s.size ≤ 4000
  · have hfr : (fr s).size ≤ 1048576 := Nat.le_trans (fr_le s) hs
    go_enter Tryd.func20, Tryd.ntmps20
    go_wp2_with (go_at_call 36; refine (split.split_any s 35 _ hs).mono ?_; rintro e w' ⟨v, rfl, hown, hb⟩; refine Hid.out ?_)
    obtain ⟨a, len, cap, rfl, hlen, hcell⟩ : ∃ a len cap, v = .slice (some a) len cap ∧ 0 < len ∧ w'.cell? a = some (.string (fr s)) := by
      have hne := split.split_ne s 35
      rcases hown.2 with ⟨_, h0⟩ | ⟨g, cap, cur, rfl, _, _, _⟩
      · omega
      · refine ⟨_, _, _, rfl, hne, ?_⟩
        rw [hown.cellAt 0 (by omega), List.getElem?_map, split.split_first]
        rfl
    clear hown
    have HB := Lib.hid hb
    clear hb
    by_cases hv : app.sealS (fr s) = s
    · have HV : Hid (ver s) := Lib.hid ⟨h4, hv⟩
      have g := eq_yes hv
      clear hv
      refine Lib.hid ?_
      go_wp2_with (go_at_call 34; refine (app.seal_any (fr s) _ hfr).mono ?_; rintro e w2 ⟨rfl, q, rfl⟩)
      go_ret2
      exact ⟨app.two_ret (verS_yes HV.out).symm (verB_yes HV.out).symm, below_drewN HB.out _⟩
    · have HV : Hid (¬ ver s) := Lib.hid (fun h => hv h.2)
      have g := eq_no hv
      clear hv
      refine Lib.hid ?_
      go_wp2_with (go_at_call 34; refine (app.seal_any (fr s) _ hfr).mono ?_; rintro e w2 ⟨rfl, q, rfl⟩)
      go_ret2
      exact ⟨app.two_ret (verS_no HV.out).symm (verB_no HV.out).symm, below_drewN HB.out _⟩
  · have HV : Hid (¬ ver s) := Lib.hid (fun h => h4 h.1)
    go_enter Tryd.func20, Tryd.ntmps20
    go_wp2_with fail
    go_ret2
    exact ⟨app.two_ret (verS_no HV.out).symm (verB_no HV.out).symm, Below.refl _ _⟩

/-! ### the program -/
theorem three {a b r : ByteArray} {x : Bool} (h : a = b) : Ending.returned (.tuple #[.string a, .string r, .bool x]) = .returned (.tuple #[.string b, .string r, .bool x]) := by rw [h]
set_option maxHeartbeats 1000000 in
theorem cut_in (s : ByteArray) (w : World) (hs : s.size ≤ 1048576) :
    Calls Tryd.prog 43 #[.string s, .string ⟨#[35]⟩] w fun e w' => (∃ r b, e = .returned (.tuple #[.string (fr s), .string r, .bool b])) ∧ ∃ q, w' = w.drewN q := by
  by_cases hi : Lib.indexByte s.data.toList 35 = -1
  · have hF := Lib.hid (fr_miss hi)
    have hx := Tryd.stringslite_Index_one s 35
    rw [hi] at hx
    clear hi
    go_enter Tryd.func43, Tryd.ntmps43
    go_wp2_with (go_at_call 50; refine (hx _).mono ?_; rintro e w' ⟨rfl, rfl⟩)
    go_ret3
    exact ⟨⟨⟨#[]⟩, false, three hF.out⟩, 0, rfl⟩
  · have hge := Lib.indexByte_ge s.data.toList 35
    obtain ⟨i, he⟩ : ∃ i : Nat, Lib.indexByte s.data.toList 35 = i := ⟨(Lib.indexByte s.data.toList 35).toNat, by omega⟩
    have hF := Lib.hid (fr_hit he)
    have hlt := idx_lt he
    have hx := Tryd.stringslite_Index_one s 35
    rw [he] at hx
    have HE := Lib.hid he
    clear hi hge he
    have g0 : (0 : Int) ≤ (i : Int) := by omega
    have g1 : (i : Int) ≤ (s.size : Int) := by omega
    have g2 : (i : Int) + 1 ≤ (s.size : Int) := by omega
    have g3 : (0 : Int) ≤ (i : Int) + 1 := by omega
    have g4 : ((i : Int) + 1).toNat = i + 1 := by omega
    have g5 : IntKind.i64.wrap ((i : Int) + 1) = (i : Int) + 1 := IntWalk.i64_in _ (by omega)
    go_enter Tryd.func43, Tryd.ntmps43
    go_wp2_with (go_at_call 50; refine (hx _).mono ?_; rintro e w' ⟨rfl, rfl⟩)
    go_quiet (fail)
    go_wp2_with fail
    go_ret3
    exact ⟨⟨s.extract (i + 1) s.size, true, three hF.out⟩, _, rfl⟩

set_option maxHeartbeats 400000 in
theorem cut_any (s : ByteArray) (w : World) (hs : s.size ≤ 1048576) :
    Calls Tryd.prog 35 #[.string s, .string ⟨#[35]⟩] w fun e w' => (∃ r b, e = .returned (.tuple #[.string (fr s), .string r, .bool b])) ∧ ∃ q, w' = w.drewN q := by
  go_enter Tryd.func35, Tryd.ntmps35
  go_wp2_with (go_at_call 43; refine (cut_in s _ hs).mono ?_; rintro e w' ⟨⟨r, b, rfl⟩, q, rfl⟩)
  go_ret3
  exact ⟨⟨_, _, rfl⟩, _, rfl⟩

set_option maxHeartbeats 1000000 in
theorem impl_any (s : ByteArray) (w : World) (hs : s.size ≤ 1048576) (ht : fmt.Tab w) :
    Calls Tryd.prog 18 #[.string s] w fun e w' => e = .returned (.tuple #[.string (verS s), .bool (verB s)]) ∧ Below w.heap.size w w' := by
  have hfr : (fr s).size ≤ 1048576 := Nat.le_trans (fr_le s) hs
  have HT := Lib.hid ht
  clear ht
  go_enter Tryd.func18, Tryd.ntmps18
  go_wp2_with (go_at_call 35; refine (cut_any s _ hs).mono ?_; rintro e w' ⟨⟨r, b, rfl⟩, q, rfl⟩; refine Hid.out ?_)
  have himp := app.impl_any (fr s) (w.drewN q) hfr HT.out
  by_cases hg : app.good (fr s)
  · rw [app.appS_yes hg, app.appB_yes hg] at himp
    by_cases hv : app.sealS (fr s) = s
    · have HV : Hid (ver s) := Lib.hid (ver_of hg hv)
      have g := eq_yes hv
      clear hv hg
      refine Lib.hid ?_
      go_wp2_with (go_at_call 16; refine himp.mono ?_; rintro e w2 ⟨rfl, hb⟩)
      go_ret2
      exact ⟨app.two_ret (verS_yes HV.out).symm (verB_yes HV.out).symm, (fmt.below_drewN _ _ _).trans hb⟩
    · have HV : Hid (¬ ver s) := Lib.hid (fun h => hv h.2)
      have g := eq_no hv
      clear hv hg
      refine Lib.hid ?_
      go_wp2_with (go_at_call 16; refine himp.mono ?_; rintro e w2 ⟨rfl, hb⟩)
      go_ret2
      exact ⟨app.two_ret (verS_no HV.out).symm (verB_no HV.out).symm, (fmt.below_drewN _ _ _).trans hb⟩
  · rw [app.appS_no hg, app.appB_no hg] at himp
    have HV : Hid (¬ ver s) := Lib.hid (fun h => hg (good_of h))
    clear hg
    refine Lib.hid ?_
    go_wp2_with (go_at_call 16; refine himp.mono ?_; rintro e w2 ⟨rfl, hb⟩)
    go_ret2
    exact ⟨app.two_ret (verS_no HV.out).symm (verB_no HV.out).symm, (fmt.below_drewN _ _ _).trans hb⟩

/-! ### the law -/
set_option maxHeartbeats 400000 in
theorem walk (s : ByteArray) (w : World) (_hs : s.size ≤ maxLen) (ht : fmt.Tab w) :
    Calls Tryd.prog 7 #[.string s] w fun e w' => e = .returned (.bool true) ∧ Below w.heap.size w w' := by
  have HT := Lib.hid ht
  clear ht
  by_cases hb : s.size ≤ 1048576
  · go_enter Tryd.func7, Tryd.ntmps7
    go_wp2_with (go_at_call 20; refine (spec_any s _ hb).mono ?_; rintro e w' ⟨rfl, hb1⟩; refine Hid.out ?_)
    have ht' : fmt.Tab w' := pint.tab_below HT.out hb1
    have himp := impl_any s w' hb ht'
    have HT' := Lib.hid ht'
    have HB := Lib.hid hb1
    clear ht' hb1
    refine Lib.hid ?_
    go_wp2_with (go_at_call 18; refine himp.mono ?_; rintro e w2 ⟨rfl, hb2⟩)
    all_goals go_ret
    all_goals exact ⟨rfl, HB.out.trans (hb2.mono HB.out.size)⟩
  · go_enter Tryd.func7, Tryd.ntmps7
    go_wp2_with fail
    go_ret
    exact ⟨rfl, Below.refl _ _⟩

theorem own : ownKnob Tryd.prog.godebug = none := by kernel_rfl
theorem door_met (os : Os) (args : Array Value) : laidMetH Tryd.prog Rows.fnExactVerifyChecksumRow.laid ((World.doorLaid Tryd.prog 400 os).forCall (fun _ _ => 0) ⟨#[], args, []⟩).memory :=
  laidMetH_of_parts3 (fuel := 8) (laidMet_of_run' 8 (by kernel_rfl) (by kernel_rfl)) (by kernel_rfl) (by kernel_rfl)

set_option maxRecDepth 100000 in
theorem lifted (os : Os) (started : os.Started) (H : Type) (enc : TypeId × Value → H) :
    ReturnsInHanded {} Tryd.checked os 7 .any (fun w args => (Rows.fnExactVerifyChecksumSpec.pre enc Tryd.prog Tryd.f7 [] false w args ∧ laidMetH Tryd.prog Rows.fnExactVerifyChecksumRow.laid w) ∧ sizedMet enc Tryd.prog Tryd.f7 (OpenSpec.ofChange Rows.fnExactVerifyChecksumSpec) false w args)
      (Rows.fnExactVerifyChecksumSpec.post enc Tryd.prog Tryd.f7 false true false false) := by
  refine returnsInHanded_of_change_and (C := Tryd.checked) (X := fun w _ => laidMetH Tryd.prog Rows.fnExactVerifyChecksumRow.laid w) (fun _ _ _ hh h => h.of_heap hh) own started (by kernel_rfl) Tryd.func7
    (ChangeSpec.witness_shaped (enc := enc) (C := Tryd.checked) (os := os) (X := fun w _ => laidMetH Tryd.prog Rows.fnExactVerifyChecksumRow.laid w) false (World.doorLaid Tryd.prog 400 os) #[.string ByteArray.empty] 8 rfl (World.shaped_of_RefB (by kernel_rfl) (by kernel_rfl)) (by kernel_rfl) (by kernel_rfl) (by kernel_rfl) (door_met os _)) ?_
  intro W base args ds gs before hval0 hW _ _ hL _
  have hval : ∀ (j : Nat) t v, Tryd.f7.params[j]? = some t → args[j]? = some v → Value.okWide Tryd.prog W .any base t v := hval0
  have hW' := hW
  obtain ⟨p, q, hA0, hV, rfl, hfz, hnd⟩ := hW
  have hA : DataW.TrodAll enc Tryd.prog W 0 (fun _ => true) true Tryd.f7.params.toList args.toList ds p := hA0
  rw [Tryd.params7] at hA hval
  obtain ⟨v0, vs0, d0, ds0, p0, q0, hargs, rfl, rfl, h0, r0⟩ := trodAll_cons hA
  obtain ⟨rfl, rfl, rfl⟩ := trodAll_nil r0
  obtain rfl : args = #[v0] := by cases args; simp_all
  obtain ⟨rfl, rfl⟩ := trodVars_none hV
  obtain ⟨a0, rfl, rfl, rfl, w0⟩ := open_string Tryd.underlying9 (hval 0 9 v0 rfl rfl) h0
  clear hA0 hval0
  simp only [List.append_nil] at hW'
  have hL' := hL
  rw [MakeChecks.laidMetH_plain _ _ _ (by kernel_rfl)] at hL'
  refine (walk a0 W w0 (fmt.tab_of hL')).mono fun e W' ⟨he, hb⟩ => ?_
  subst he
  exact ⟨_, rfl, _, _, _, [], [], [], hW', trodAll_mk1 (shut_bool Tryd.underlying4 _), (trodAll_cons_mk (shut_string Tryd.underlying9 w0) trodAll_mk0), rfl, hb.frame _, fun h => by cases h⟩

theorem over : Rows.FnExactVerifyChecksumSaid :=
  OpenClaim.holds_of_wide 7 Tryd.f7 rfl rfl rfl rfl rfl rfl rfl ⟨rfl, rfl, rfl, rfl, rfl⟩ rfl rfl rfl rfl rfl (by kernel_rfl) Tryd.func7 (by kernel_rfl)
    (of_decide_eq_true (by kernel_rfl)) (by unfold Func.isWrapper; first | (rw [if_pos (by decide +kernel)]; kernel_rfl) | (rw [if_neg (by decide +kernel)]; exact ⟨rfl, rfl⟩))
    (fun os started H enc _ => lifted os started H enc)

theorem proved : Rows.FnExactVerifyChecksumCardSaid :=
  Claim7.holds_tied_plain_at .later [] [.data, .data, .data] true (true, "abb85c921146f61a365de4c871a6bb3e35e6a2bec174cc1cab53c5a1a24ed55a") true
    over (fun _ h => by cases h) (by kernel_rfl) (fun _ h => by cases h) fnExactVerifyChecksum_row_tie rfl ⟨rfl, rfl⟩ (by kernel_rfl) rfl
    (fun f fn hf hfn => by
      obtain rfl : f = 7 := Option.some.inj ((show Tryd.prog.funcNamed "loop.example/g01141/laws.FnExactVerifyChecksum" = some 7 by kernel_rfl).symm.trans hf) |>.symm
      obtain rfl : fn = Tryd.f7 := (Option.some.inj (Tryd.func7.symm.trans hfn)).symm
      exact ⟨by kernel_rfl, fun j t ht => by
        rw [Tryd.params7] at ht
        have hm : t ∈ [9] := by simpa using Array.mem_of_getElem? ht
        have hall : ([9].all fun u => !Tryd.prog.wantsStandIn u) = true := by kernel_rfl
        exact (show Tryd.prog.wantsStandIn t = false by simpa using List.all_eq_true.1 hall t hm)⟩)
    (by kernel_rfl)
#print axioms proved
end Go.Proofs.YtlbigpkajfdkjaaDoor.ver
