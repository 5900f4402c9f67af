/- Proved here: for every string, the law FnExactAppendChecksum returns true: the program AppendChecksum answers as its model in every field, and the argument reads afterwards as before. Conditions: the card ties the listed library tables to the program text. -/
import Derived.Test.YtlbigpkajfdkjaaDoorPint
import Derived.Test.YtlbigpkajfdkjaaDoorSum
import Derived.Lib.IndexAny
namespace Go.Proofs.YtlbigpkajfdkjaaDoor.app
open Go.ChangeShapes Go.WideShapes Go.ChangeAt Go.RowKit
open Go.ChangeMaps (open_string shut_string)

def mid (s : ByteArray) : ByteArray := ⟨(s.data.toList ++ [35]).toArray⟩
def num (s : ByteArray) : List UInt8 := Lib.itoa (sum.sum s.data.toList)
def sealS (s : ByteArray) : ByteArray := ⟨(s.data.toList ++ [35] ++ num s).toArray⟩
def stands (s : ByteArray) (b : UInt8) : Bool := s.data.toList.contains b
def good (s : ByteArray) : Prop := s.size ≤ 4000 ∧ stands s 35 = false ∧ (sealS s).size ≤ 4000
open Classical in
noncomputable def appS (s : ByteArray) : ByteArray := if good s then sealS s else ⟨#[]⟩
open Classical in
noncomputable def appB (s : ByteArray) : Bool := if good s then true else false
theorem two_ret {a b : ByteArray} {x y : Bool} (h : a = b) (g : x = y) : Ending.returned (.tuple #[.string a, .bool x]) = .returned (.tuple #[.string b, .bool y]) := by rw [h, g]
theorem appS_yes {s : ByteArray} (h : good s) : appS s = sealS s := if_pos h
theorem appS_no {s : ByteArray} (h : ¬ good s) : appS s = ⟨#[]⟩ := if_neg h
theorem appB_yes {s : ByteArray} (h : good s) : appB s = true := if_pos h
theorem appB_no {s : ByteArray} (h : ¬ good s) : appB s = false := if_neg h

theorem num_le (s : ByteArray) : (num s).length ≤ 21 := by
  have := sum.sum_bd s.data.toList
  exact Lib.itoa_length_le _ (by omega) (by omega)
theorem mid_size (s : ByteArray) : (mid s).size = s.size + 1 := by
  show (s.data.toList ++ [35]).toArray.size = _
  rw [List.size_toArray, List.length_append, parse.len_data]; rfl
theorem seal_size (s : ByteArray) : (sealS s).size = s.size + 1 + (num s).length := by
  show (s.data.toList ++ [35] ++ num s).toArray.size = _
  rw [List.size_toArray, List.length_append, List.length_append, parse.len_data]; rfl
theorem ba_data (s : ByteArray) : s = ⟨s.data.toList.toArray⟩ := by rw [Array.toArray_toList]
theorem cat_mid (s : ByteArray) (h : s.size ≤ 1048576) (w : World) : (Op.stringOp .add s ⟨#[35]⟩).run Tryd.prog w = .ok (.string (mid s)) w := by
  have e : s = ⟨s.data.toList.toArray⟩ := ba_data s
  have := run_string_add_lists (P := Tryd.prog) w s.data.toList [35] (by rw [parse.len_data]; omega) (by simp)
  rw [← e] at this
  exact this
theorem cat_seal (s : ByteArray) (h : s.size ≤ 1048576) (w : World) : (Op.stringOp .add (mid s) ⟨(num s).toArray⟩).run Tryd.prog w = .ok (.string (sealS s)) w := by
  have := num_le s
  exact run_string_add_lists (P := Tryd.prog) w (s.data.toList ++ [35]) (num s) (by rw [List.length_append, parse.len_data]; simp; omega) (by omega)

theorem stands_no {l : List UInt8} {b : UInt8} (h : ∀ k, k < l.length → l[k]? ≠ some b) : l.contains b = false := by
  rw [List.contains_eq_mem, decide_eq_false_iff_not]
  intro hm
  obtain ⟨k, hk, e⟩ := List.getElem_of_mem hm
  exact h k hk (by rw [List.getElem?_eq_getElem hk, e])
theorem stands_yes {l : List UInt8} {b : UInt8} {k : Nat} (h : l[k]? = some b) : l.contains b = true := by
  rw [List.contains_eq_mem, decide_eq_true_eq]
  exact List.mem_of_getElem? h

theorem ret_bool {a b : Bool} (h : a = b) : Ending.returned (.bool a) = .returned (.bool b) := by rw [h]
theorem u8_eq {a b : UInt8} (h : ((a.toNat : Int) == (b.toNat : Int)) = true) : a = b := UInt8.toNat_inj.1 (by have := eq_of_beq h; omega)
theorem u8_ne {a b : UInt8} (h : ((a.toNat : Int) == (b.toNat : Int)) = false) : ¬ a = b := by
  rintro rfl
  rw [beq_self_eq_true] at h
  cases h

set_option maxHeartbeats 400000 in
theorem stands_any (s : ByteArray) (b : UInt8) (w : World) (hs : s.size ≤ maxLen) :
    Calls Tryd.prog 33 #[.string s, .int .u8 b.toNat] w fun e w' => e = .returned (.bool (stands s b)) ∧ w = w' := by
  unfold maxLen at hs
  go_enter Tryd.func33, Tryd.ntmps33
  go_wp2_with fail
  go_loop [5] (fun i => ∃ k : Nat, k ≤ s.size ∧ i = .int .i64 k ∧ Hid (∀ j, j < k → s.data.toList[j]? ≠ some b)) (fun i => s.size - (intOf i).toNat)
  case atStart => exact ⟨0, Nat.zero_le _, rfl, Lib.hid (fun j hj => by omega)⟩
  case round =>
    obtain ⟨k, hk, rfl, hn⟩ := hrel
    by_cases hlt : k < s.size
    · go_wp2_with fail
      · have hb : s[k] = b := u8_eq (by assumption)
        go_ret
        exact ⟨ret_bool (stands_yes (l := s.data.toList) (b := b) (k := k) (by rw [parse.at_all s k hlt, hb])).symm, rfl⟩
      · have hb : ¬ s[k] = b := u8_ne (by assumption)
        go_round
        case rel => exact ⟨k + 1, by omega, by go_num, Lib.hid (fun j hj => by
          rcases Nat.lt_or_ge j k with h | h
          · exact hn.out j h
          · obtain rfl : j = k := by omega
            rw [parse.at_all s j hlt]; intro e; injection e with e; exact hb e)⟩
        case measure => simp [intOf]; omega
    · have HB := Lib.hid (stands_no (l := s.data.toList) (b := b) (fun j hj => hn.out j (by rw [parse.len_data] at hj; omega)))
      go_wp2_with fail
      go_ret
      exact ⟨ret_bool HB.out.symm, rfl⟩

/-! ### the model -/
set_option maxHeartbeats 400000 in
theorem seal_any (s : ByteArray) (w : World) (hs : s.size ≤ 1048576) :
    Calls Tryd.prog 34 #[.string s] w fun e w' => e = .returned (.string (sealS s)) ∧ ∃ q, w' = w.drewN q := by
  have hs' : s.size ≤ maxLen := Nat.le_trans hs (by decide)
  have c1 := fun w => cat_mid s hs w
  have c2 : ∀ w, (Op.stringOp .add (mid s) ⟨(Lib.itoa (sum.sum s.data.toList)).toArray⟩).run Tryd.prog w = .ok (.string (sealS s)) w := fun w => cat_seal s hs w
  have hsum := sum.sum_bd s.data.toList
  have hnum := num.l1Num_any (sum.sum s.data.toList)
  go_enter Tryd.func34, Tryd.ntmps34
  go_wp2_with (first | (go_at_call 42; refine (sum.l1Sum_any s _ hs').mono ?_; rintro e w' ⟨rfl, rfl⟩) | (go_at_call 25; refine (hnum _ (by omega) (by omega)).mono ?_; rintro e w' ⟨rfl, q, rfl⟩))
  go_ret
  exact ⟨rfl, _, rfl⟩

set_option maxHeartbeats 1000000 in
theorem spec_any (s : ByteArray) (w : World) (hs : s.size ≤ 1048576) :
    Calls Tryd.prog 17 #[.string s] w fun e w' => e = .returned (.tuple #[.string (appS s), .bool (appB s)]) ∧ ∃ q, w' = w.drewN q := by
  have hs' : s.size ≤ maxLen := Nat.le_trans hs (by decide)
  by_cases h1 : s.size ≤ 4000
  · by_cases h2 : stands s 35 = false
    · by_cases h3 : (sealS s).size ≤ 4000
      · have HG : Hid (good s) := Lib.hid ⟨h1, h2, h3⟩
        go_enter Tryd.func17, Tryd.ntmps17
        go_wp2_with (first | (go_at_call 33; refine (stands_any s 35 _ hs').mono ?_; rintro e w' ⟨rfl, rfl⟩) | (go_at_call 34; refine (seal_any s _ hs).mono ?_; rintro e w' ⟨rfl, q, rfl⟩))
        go_ret2
        exact ⟨two_ret (appS_yes HG.out).symm (appB_yes HG.out).symm, _, rfl⟩
      · have HG : Hid (¬ good s) := Lib.hid (fun h => h3 h.2.2)
        go_enter Tryd.func17, Tryd.ntmps17
        go_wp2_with (first | (go_at_call 33; refine (stands_any s 35 _ hs').mono ?_; rintro e w' ⟨rfl, rfl⟩) | (go_at_call 34; refine (seal_any s _ hs).mono ?_; rintro e w' ⟨rfl, q, rfl⟩))
        go_ret2
        exact ⟨two_ret (appS_no HG.out).symm (appB_no HG.out).symm, _, rfl⟩
    · have HG : Hid (¬ good s) := Lib.hid (fun h => h2 h.2.1)
      have h2' : stands s 35 = true := by simpa using h2
      clear h2
      go_enter Tryd.func17, Tryd.ntmps17
      go_wp2_with (first | (go_at_call 33; refine (stands_any s 35 _ hs').mono ?_; rintro e w' ⟨rfl, rfl⟩) | (go_at_call 34; refine (seal_any s _ hs).mono ?_; rintro e w' ⟨rfl, q, rfl⟩))
      go_ret2
      exact ⟨two_ret (appS_no HG.out).symm (appB_no HG.out).symm, 0, rfl⟩
  · have HG : Hid (¬ good s) := Lib.hid (fun h => h1 h.1)
    go_enter Tryd.func17, Tryd.ntmps17
    go_wp2_with fail
    go_ret2
    exact ⟨two_ret (appS_no HG.out).symm (appB_no HG.out).symm, 0, rfl⟩

/-! ### the program -/
theorem stands_idx (s : ByteArray) : decide (0 ≤ Lib.indexByte s.data.toList 35) = stands s 35 := (Lib.contains_iff_indexByte _ _).symm
theorem has_any (s : ByteArray) (w : World) :
    Calls Tryd.prog 32 #[.string s, .string ⟨#[35]⟩] w fun e w' => e = .returned (.bool (stands s 35)) ∧ w = w' := by
  rw [← stands_idx]
  exact (Tryd.strings_Contains_one s 35 w).mono fun _ _ ⟨h1, h2⟩ => ⟨h1, h2.symm⟩
theorem chk_yes (s : ByteArray) (w : World) (hs : s.size ≤ maxLen) (h : s.size ≤ 4000) :
    Calls Tryd.prog 31 #[.string s] w fun e w' => e = .returned (.tuple #[.int .i64 (sum.sum s.data.toList), .bool true]) ∧ w = w' := by
  have := sum.checksum_any s w hs
  rwa [sum.sumOf_yes h, sum.okOf_yes h] at this
theorem chk_no (s : ByteArray) (w : World) (hs : s.size ≤ maxLen) (h : ¬ s.size ≤ 4000) :
    Calls Tryd.prog 31 #[.string s] w fun e w' => e = .returned (.tuple #[.int .i64 0, .bool false]) ∧ w = w' := by
  have := sum.checksum_any s w hs
  rwa [sum.sumOf_no h, sum.okOf_no h] at this
theorem fmt_sum (s : ByteArray) (w : World) (ht : fmt.Tab w) :
    Calls Tryd.prog 10 #[.int .i64 (sum.sum s.data.toList)] w fun e w' => e = .returned (.tuple #[.string ⟨(num s).toArray⟩, .bool true]) ∧ Below w.heap.size w w' := by
  have hb := sum.sum_bd s.data.toList
  have h : -999999 ≤ sum.sum s.data.toList ∧ sum.sum s.data.toList ≤ 999999 := by omega
  have := fmt.impl_any (sum.sum s.data.toList) w ht
  rwa [fmt.fmtS_in h, fmt.fmtB_in h] at this

set_option linter.unusedVariables false in
set_option maxHeartbeats 1000000 in
theorem impl_any (s : ByteArray) (w : World) (hs : s.size ≤ 1048576) (ht : fmt.Tab w) :
    Calls Tryd.prog 16 #[.string s] w fun e w' => e = .returned (.tuple #[.string (appS s), .bool (appB s)]) ∧ Below w.heap.size w w' := by
  have hs' : s.size ≤ maxLen := Nat.le_trans hs (by decide)
  have hfmt := fmt_sum s w ht
  have HT := Lib.hid ht
  clear ht
  by_cases h1 : s.size ≤ 4000
  · by_cases h2 : stands s 35 = false
    · have hz := seal_size s
      have hn := num_le s
      by_cases h3 : (sealS s).size ≤ 4000
      · have HG : Hid (good s) := Lib.hid ⟨h1, h2, h3⟩
        have h4 : s.size + 1 + (num s).length ≤ 4000 := by omega
        have c1 := fun w => cat_mid s hs w
        have c2 := fun w => cat_seal s hs w
        clear hz h3
        go_enter Tryd.func16, Tryd.ntmps16
        go_wp2_with (first | (go_at_call 31; refine (chk_yes s _ hs' h1).mono ?_; rintro e w' ⟨rfl, rfl⟩) | (go_at_call 32; refine (has_any s _).mono ?_; rintro e w' ⟨rfl, rfl⟩) | (go_at_call 10; refine hfmt.mono ?_; rintro e w' ⟨rfl, hb⟩))
        go_ret2
        exact ⟨two_ret (appS_yes HG.out).symm (appB_yes HG.out).symm, hb⟩
      · have HG : Hid (¬ good s) := Lib.hid (fun h => h3 h.2.2)
        have h4 : 4000 < s.size + 1 + (num s).length := by omega
        clear hz h3
        go_enter Tryd.func16, Tryd.ntmps16
        go_wp2_with (first | (go_at_call 31; refine (chk_yes s _ hs' h1).mono ?_; rintro e w' ⟨rfl, rfl⟩) | (go_at_call 32; refine (has_any s _).mono ?_; rintro e w' ⟨rfl, rfl⟩) | (go_at_call 10; refine hfmt.mono ?_; rintro e w' ⟨rfl, hb⟩))
        go_ret2
        exact ⟨two_ret (appS_no HG.out).symm (appB_no HG.out).symm, hb⟩
    · have HG : Hid (¬ good s) := Lib.hid (fun h => h2 h.2.1)
      have h2' : stands s 35 = true := by simpa using h2
      clear h2
      go_enter Tryd.func16, Tryd.ntmps16
      go_wp2_with (first | (go_at_call 31; refine (chk_yes s _ hs' h1).mono ?_; rintro e w' ⟨rfl, rfl⟩) | (go_at_call 32; refine (has_any s _).mono ?_; rintro e w' ⟨rfl, rfl⟩))
      go_ret2
      exact ⟨two_ret (appS_no HG.out).symm (appB_no HG.out).symm, Below.refl _ _⟩
  · have HG : Hid (¬ good s) := Lib.hid (fun h => h1 h.1)
    go_enter Tryd.func16, Tryd.ntmps16
    go_wp2_with (go_at_call 31; refine (chk_no s _ hs' h1).mono ?_; rintro e w' ⟨rfl, rfl⟩)
    go_ret2
    exact ⟨two_ret (appS_no HG.out).symm (appB_no HG.out).symm, Below.refl _ _⟩

/-! ### the law -/
set_option maxHeartbeats 400000 in
theorem walk (s : ByteArray) (w : World) (_hs : s.size ≤ maxLen) (ht : fmt.Tab w) :
    Calls Tryd.prog 6 #[.string s] w fun e w' => e = .returned (.bool true) ∧ Below w.heap.size w w' := by
  have HT := Lib.hid ht
  clear ht
  by_cases hb : s.size ≤ 1048576
  · go_enter Tryd.func6, Tryd.ntmps6
    go_wp2_with (go_at_call 17; refine (spec_any s _ hb).mono ?_; rintro e w' ⟨rfl, q, rfl⟩; refine Hid.out ?_)
    have ht' : fmt.Tab (w.drewN q) := HT.out
    have himp := impl_any s (w.drewN q) hb ht'
    have HT' := Lib.hid ht'
    clear ht'
    refine Lib.hid ?_
    go_wp2_with (go_at_call 16; refine himp.mono ?_; rintro e w' ⟨rfl, hb⟩)
    all_goals go_ret
    all_goals exact ⟨rfl, (fmt.below_drewN _ _ _).trans hb⟩
  · go_enter Tryd.func6, Tryd.ntmps6
    go_wp2_with fail
    go_ret
    exact ⟨rfl, Below.refl _ _⟩

theorem own : ownKnob Tryd.prog.godebug = none := by kernel_rfl
theorem door_met (os : Os) (args : Array Value) : laidMetH Tryd.prog Rows.fnExactAppendChecksumRow.laid ((World.doorLaid Tryd.prog 400 os).forCall (fun _ _ => 0) ⟨#[], args, []⟩).memory :=
  laidMetH_of_parts3 (fuel := 8) (laidMet_of_run' 8 (by kernel_rfl) (by kernel_rfl)) (by kernel_rfl) (by kernel_rfl)

set_option maxRecDepth 100000 in
theorem lifted (os : Os) (started : os.Started) (H : Type) (enc : TypeId × Value → H) :
    ReturnsInHanded {} Tryd.checked os 6 .any (fun w args => (Rows.fnExactAppendChecksumSpec.pre enc Tryd.prog Tryd.f6 [] false w args ∧ laidMetH Tryd.prog Rows.fnExactAppendChecksumRow.laid w) ∧ sizedMet enc Tryd.prog Tryd.f6 (OpenSpec.ofChange Rows.fnExactAppendChecksumSpec) false w args)
      (Rows.fnExactAppendChecksumSpec.post enc Tryd.prog Tryd.f6 false true false false) := by
  refine returnsInHanded_of_change_and (C := Tryd.checked) (X := fun w _ => laidMetH Tryd.prog Rows.fnExactAppendChecksumRow.laid w) (fun _ _ _ hh h => h.of_heap hh) own started (by kernel_rfl) Tryd.func6
    (ChangeSpec.witness_shaped (enc := enc) (C := Tryd.checked) (os := os) (X := fun w _ => laidMetH Tryd.prog Rows.fnExactAppendChecksumRow.laid w) false (World.doorLaid Tryd.prog 400 os) #[.string ByteArray.empty] 8 rfl (World.shaped_of_RefB (by kernel_rfl) (by kernel_rfl)) (by kernel_rfl) (by kernel_rfl) (by kernel_rfl) (door_met os _)) ?_
  intro W base args ds gs before hval0 hW _ _ hL _
  have hval : ∀ (j : Nat) t v, Tryd.f6.params[j]? = some t → args[j]? = some v → Value.okWide Tryd.prog W .any base t v := hval0
  have hW' := hW
  obtain ⟨p, q, hA0, hV, rfl, hfz, hnd⟩ := hW
  have hA : DataW.TrodAll enc Tryd.prog W 0 (fun _ => true) true Tryd.f6.params.toList args.toList ds p := hA0
  rw [Tryd.params6] at hA hval
  obtain ⟨v0, vs0, d0, ds0, p0, q0, hargs, rfl, rfl, h0, r0⟩ := trodAll_cons hA
  obtain ⟨rfl, rfl, rfl⟩ := trodAll_nil r0
  obtain rfl : args = #[v0] := by cases args; simp_all
  obtain ⟨rfl, rfl⟩ := trodVars_none hV
  obtain ⟨a0, rfl, rfl, rfl, w0⟩ := open_string Tryd.underlying9 (hval 0 9 v0 rfl rfl) h0
  clear hA0 hval0
  simp only [List.append_nil] at hW'
  have hL' := hL
  rw [MakeChecks.laidMetH_plain _ _ _ (by kernel_rfl)] at hL'
  refine (walk a0 W w0 (fmt.tab_of hL')).mono fun e W' ⟨he, hb⟩ => ?_
  subst he
  exact ⟨_, rfl, _, _, _, [], [], [], hW', trodAll_mk1 (shut_bool Tryd.underlying4 _), (trodAll_cons_mk (shut_string Tryd.underlying9 w0) trodAll_mk0), rfl, hb.frame _, fun h => by cases h⟩

theorem over : Rows.FnExactAppendChecksumSaid :=
  OpenClaim.holds_of_wide 6 Tryd.f6 rfl rfl rfl rfl rfl rfl rfl ⟨rfl, rfl, rfl, rfl, rfl⟩ rfl rfl rfl rfl rfl (by kernel_rfl) Tryd.func6 (by kernel_rfl)
    (of_decide_eq_true (by kernel_rfl)) (by unfold Func.isWrapper; first | (rw [if_pos (by decide +kernel)]; kernel_rfl) | (rw [if_neg (by decide +kernel)]; exact ⟨rfl, rfl⟩))
    (fun os started H enc _ => lifted os started H enc)

theorem proved : Rows.FnExactAppendChecksumCardSaid :=
  Claim7.holds_tied_plain_at .later [] [.data, .data, .data] true (true, "abb85c921146f61a365de4c871a6bb3e35e6a2bec174cc1cab53c5a1a24ed55a") true
    over (fun _ h => by cases h) (by kernel_rfl) (fun _ h => by cases h) fnExactAppendChecksum_row_tie rfl ⟨rfl, rfl⟩ (by kernel_rfl) rfl
    (fun f fn hf hfn => by
      obtain rfl : f = 6 := Option.some.inj ((show Tryd.prog.funcNamed "loop.example/g01141/laws.FnExactAppendChecksum" = some 6 by kernel_rfl).symm.trans hf) |>.symm
      obtain rfl : fn = Tryd.f6 := (Option.some.inj (Tryd.func6.symm.trans hfn)).symm
      exact ⟨by kernel_rfl, fun j t ht => by
        rw [Tryd.params6] at ht
        have hm : t ∈ [9] := by simpa using Array.mem_of_getElem? ht
        have hall : ([9].all fun u => !Tryd.prog.wantsStandIn u) = true := by kernel_rfl
        exact (show Tryd.prog.wantsStandIn t = false by simpa using List.all_eq_true.1 hall t hm)⟩)
    (by kernel_rfl)
#print axioms proved
end Go.Proofs.YtlbigpkajfdkjaaDoor.app
