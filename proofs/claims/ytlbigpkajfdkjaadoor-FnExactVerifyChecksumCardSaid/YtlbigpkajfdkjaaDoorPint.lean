/- Proved here: for every string, the law FnExactParseInt returns true: the program ParseInt answers as its model in every field, and the argument reads afterwards as before. Conditions: the card ties the five listed library variables to the program text. -/
import Derived.Test.YtlbigpkajfdkjaaDoorRead
import Derived.Stop.LaidErr
namespace Go.Proofs.YtlbigpkajfdkjaaDoor.pint
open Go.ChangeShapes Go.WideShapes Go.ChangeAt Go.RowKit
open Go.ChangeMaps (open_string shut_string)

/-! ### the listed variables -/
theorem star : "*" ++ "errors.errorString" = "*errors.errorString" := by decide
theorem rowOne (u : TypeId) (h : Tryd.prog.typeName? 3 u = some "*errors.errorString") : u = 86 :=
  typeName_ptr_named (nm := "errors.errorString") (by rw [star]; kernel_rfl) (by kernel_rfl) (by decide) u (by rw [star]; exact h)
def Vars (w : World) : Prop := fmt.Tab w ∧ (∃ p, w.var? Tryd.prog "strconv.ErrRange" = some #[.iface 86 p]) ∧ ∃ p, w.var? Tryd.prog "strconv.ErrSyntax" = some #[.iface 86 p]
theorem cells88 : Tryd.prog.cellsOf 88 = 1 := by kernel_rfl
theorem cells9 : Tryd.prog.cellsOf 9 = 1 := by kernel_rfl
theorem vars_of {r0 r1 : String × DataW Unit} {W : World} (h : laidMet Tryd.prog (r0 :: r1 :: ("internal/strconv.uint64pow10", Rows.laid_internal_strconv_uint64pow10) :: ("strconv.ErrRange", Rows.laid_strconv_ErrRange) :: [("strconv.ErrSyntax", Rows.laid_strconv_ErrSyntax)]) W) : Vars W := by
  refine ⟨fmt.tab_of h, ?_, ?_⟩
  · obtain ⟨a, _, hv, _⟩ := laid_sentinel h.tail.tail.tail (g := 1) (by kernel_rfl) (by kernel_rfl) Tryd.underlying46 rowOne Tryd.underlying86 Tryd.underlying88 rfl rfl Tryd.underlying9 cells88 cells9
    exact ⟨_, hv⟩
  · obtain ⟨a, _, hv, _⟩ := laid_sentinel h.tail.tail.tail.tail (g := 0) (by kernel_rfl) (by kernel_rfl) Tryd.underlying46 rowOne Tryd.underlying86 Tryd.underlying88 rfl rfl Tryd.underlying9 cells88 cells9
    exact ⟨_, hv⟩

theorem tab_below {w w' : World} (h : fmt.Tab w) (hb : Below w.heap.size w w') : fmt.Tab w' := by
  have hlt : 3 < w.heap.size := by
    have hg : Tryd.prog.globalNamed "internal/strconv.uint64pow10" = some 3 := by kernel_rfl
    rcases Nat.lt_or_ge 3 w.heap.size with h' | h'
    · exact h'
    · have h2 := h
      unfold fmt.Tab Lib.TabIs World.var? at h2
      rw [hg] at h2
      simp only [Option.bind_some] at h2
      rw [Array.getElem?_eq_none h'] at h2
      cases h2
  exact var?_below hb (by kernel_rfl) hlt h

theorem two_int {a b : Int} {x y : Bool} (h : a = b) (g : x = y) : Ending.returned (.tuple #[.int .i64 a, .bool x]) = .returned (.tuple #[.int .i64 b, .bool y]) := by rw [h, g]

/-! ### the walks -/
theorem implP_ok {s : List UInt8} {v : Int} (h : Lib.atoiAll s = .ok v) (h1 : -999999 ≤ v ∧ v ≤ 999999) (h2 : Lib.itoa v = s) : parse.specP s = some v := by
  rw [← parse.same]; unfold parse.implP; rw [h]; exact if_pos ⟨h1, h2⟩
theorem implP_no {s : List UInt8} {v : Int} (h : Lib.atoiAll s = .ok v) (h1 : ¬ ((-999999 ≤ v ∧ v ≤ 999999) ∧ Lib.itoa v = s)) : parse.specP s = none := by
  rw [← parse.same]; unfold parse.implP; rw [h]; exact if_neg h1
theorem implP_bad {s : List UInt8} (h : ∀ v, Lib.atoiAll s ≠ .ok v) : parse.specP s = none := by
  rw [← parse.same]; unfold parse.implP; cases e : Lib.atoiAll s with
  | ok v => exact absurd e (h v)
  | «syntax» => rfl
  | range => rfl

set_option maxHeartbeats 1000000 in
theorem impl_any (s : ByteArray) (w : World) (hs : s.size ≤ 1048576) (hV : Vars w) :
    Calls Tryd.prog 13 #[.string s] w fun e w' => e = .returned (.tuple #[.int .i64 ((parse.specP s.data.toList).getD 0), .bool (parse.specP s.data.toList).isSome]) ∧ Below w.heap.size w w' := by
  obtain ⟨hT, ⟨p1, hR⟩, p2, hS⟩ := hV
  cases hA : Lib.atoiAll s.data.toList with
  | ok v =>
    have HA := Lib.hid hA
    clear hA
    have hat := Tryd.strconv_Atoi_ok s (by omega) v HA.out
    have HR := Lib.hid hR; have HSy := Lib.hid hS; have HT := Lib.hid hT
    clear hR hS hT
    go_enter Tryd.func13, Tryd.ntmps13
    go_wp2_with (go_at_call 28; refine (hat _).mono ?_; rintro e w' ⟨rfl, hw⟩; refine Hid.out ?_)
    have hT' : fmt.Tab w' := by
      rcases hw with rfl | ⟨t, rfl⟩
      · exact HT.out
      · exact tab_below HT.out (Lib.bytesWorld_below _ _ _)
    have hb : Below w.heap.size w w' := by
      rcases hw with rfl | ⟨t, rfl⟩
      · exact Below.refl _ _
      · exact Lib.bytesWorld_below _ _ _
    clear hw
    have hfm := fmt.impl_any v w' hT'
    have HT' := Lib.hid hT'
    clear hT' hat
    by_cases h1 : -999999 ≤ v ∧ v ≤ 999999
    · by_cases h2 : Lib.itoa v = s.data.toList
      · have HE := Lib.hid (implP_ok HA.out h1 h2)
        rw [fmt.fmtS_in h1, fmt.fmtB_in h1] at hfm
        have g3 := parse.beq_yes h2
        have g4 := parse.beq_yes' h2
        clear h1 h2
        refine Lib.hid ?_
        go_wp2_with (go_at_call 10; refine hfm.mono ?_; rintro e w2 ⟨rfl, hb2⟩)
        go_ret2
        exact ⟨by rw [HE.out]; rfl, hb.trans (hb2.mono hb.size)⟩
      · have HE := Lib.hid (implP_no HA.out (fun h => h2 h.2))
        rw [fmt.fmtS_in h1, fmt.fmtB_in h1] at hfm
        have g3 := parse.beq_no h2
        have g4 := parse.beq_no' h2
        clear h1 h2
        refine Lib.hid ?_
        go_wp2_with (go_at_call 10; refine hfm.mono ?_; rintro e w2 ⟨rfl, hb2⟩)
        go_ret2
        exact ⟨by rw [HE.out]; rfl, hb.trans (hb2.mono hb.size)⟩
    · have HE := Lib.hid (implP_no HA.out (fun h => h1 h.1))
      rw [fmt.fmtB_out h1] at hfm
      clear h1
      refine Lib.hid ?_
      go_wp2_with (go_at_call 10; refine hfm.mono ?_; rintro e w2 ⟨rfl, hb2⟩)
      go_ret2
      exact ⟨by rw [HE.out]; rfl, hb.trans (hb2.mono hb.size)⟩
  | «syntax» =>
    have HN := Lib.hid (implP_bad (s := s.data.toList) (by rw [hA]; intro v h; cases h))
    have HA := Lib.hid hA
    clear hA
    have hat := Tryd.strconv_Atoi_syntax_var s (by omega) HA.out 86 p2 w hS
    have HR := Lib.hid hR; have HSy := Lib.hid hS; have HT := Lib.hid hT
    clear hR hS hT
    go_enter Tryd.func13, Tryd.ntmps13
    go_wp2_with (go_at_call 28; refine hat.mono ?_; rintro e w' ⟨N, rfl, -, -, hb⟩)
    go_ret2
    exact ⟨by rw [HN.out]; rfl, hb⟩
  | range =>
    have HN := Lib.hid (implP_bad (s := s.data.toList) (by rw [hA]; intro v h; cases h))
    have HA := Lib.hid hA
    clear hA
    have hat := Tryd.strconv_Atoi_range_var s (by omega) HA.out 86 p1 w hR
    have HR := Lib.hid hR; have HSy := Lib.hid hS; have HT := Lib.hid hT
    clear hR hS hT
    go_enter Tryd.func13, Tryd.ntmps13
    go_wp2_with (go_at_call 28; refine hat.mono ?_; rintro e w' ⟨N, rfl, -, -, hb⟩)
    go_ret2
    exact ⟨by rw [HN.out]; rfl, hb⟩

set_option maxHeartbeats 400000 in
theorem spec_any (s : ByteArray) (w : World) (hs : s.size ≤ maxLen) :
    Calls Tryd.prog 14 #[.string s] w fun e w' => e = .returned (.tuple #[.int .i64 ((parse.specP s.data.toList).getD 0), .bool (parse.specP s.data.toList).isSome]) ∧ ∃ q, w' = w.drewN q := by
  go_enter Tryd.func14, Tryd.ntmps14
  go_wp2_with (go_at_call 29; refine (read.read_any s _ hs).mono ?_; rintro e w' ⟨rfl, q, rfl⟩)
  go_ret2
  exact ⟨rfl, _, rfl⟩

set_option maxHeartbeats 400000 in
theorem walk (s : ByteArray) (w : World) (hs : s.size ≤ maxLen) (hV : Vars w) :
    Calls Tryd.prog 5 #[.string s] w fun e w' => e = .returned (.bool true) ∧ Below w.heap.size w w' := by
  have HV := Lib.hid hV
  clear hV
  by_cases hb : s.size ≤ 1048576
  · go_enter Tryd.func5, Tryd.ntmps5
    go_wp2_with (go_at_call 14; refine (spec_any s _ hs).mono ?_; rintro e w' ⟨rfl, q, rfl⟩; refine Hid.out ?_)
    have hV' : Vars (w.drewN q) := HV.out
    have himp := impl_any s (w.drewN q) hb hV'
    have HV' := Lib.hid hV'
    clear hV'
    refine Lib.hid ?_
    go_wp2_with (go_at_call 13; refine himp.mono ?_; rintro e w' ⟨rfl, hb⟩)
    all_goals go_ret
    all_goals exact ⟨rfl, (fmt.below_drewN _ _ _).trans hb⟩
  · go_enter Tryd.func5, Tryd.ntmps5
    go_wp2_with fail
    go_ret
    exact ⟨rfl, Below.refl _ _⟩
theorem own : ownKnob Tryd.prog.godebug = none := by kernel_rfl
theorem door_met (os : Os) (args : Array Value) : laidMetH Tryd.prog Rows.fnExactParseIntRow.laid ((World.doorLaid Tryd.prog 400 os).forCall (fun _ _ => 0) ⟨#[], args, []⟩).memory :=
  laidMetH_of_parts3 (fuel := 8) (laidMet_of_run' 8 (by kernel_rfl) (by kernel_rfl)) (by kernel_rfl) (by kernel_rfl)

set_option maxRecDepth 100000 in
theorem lifted (os : Os) (started : os.Started) (H : Type) (enc : TypeId × Value → H) :
    ReturnsInHanded {} Tryd.checked os 5 .any (fun w args => (Rows.fnExactParseIntSpec.pre enc Tryd.prog Tryd.f5 [] false w args ∧ laidMetH Tryd.prog Rows.fnExactParseIntRow.laid w) ∧ sizedMet enc Tryd.prog Tryd.f5 (OpenSpec.ofChange Rows.fnExactParseIntSpec) false w args)
      (Rows.fnExactParseIntSpec.post enc Tryd.prog Tryd.f5 false true false false) := by
  refine returnsInHanded_of_change_and (C := Tryd.checked) (X := fun w _ => laidMetH Tryd.prog Rows.fnExactParseIntRow.laid w) (fun _ _ _ hh h => h.of_heap hh) own started (by kernel_rfl) Tryd.func5
    (ChangeSpec.witness_shaped (enc := enc) (C := Tryd.checked) (os := os) (X := fun w _ => laidMetH Tryd.prog Rows.fnExactParseIntRow.laid w) false (World.doorLaid Tryd.prog 400 os) #[.string ByteArray.empty] 8 rfl (World.shaped_of_RefB (by kernel_rfl) (by kernel_rfl)) (by kernel_rfl) (by kernel_rfl) (by kernel_rfl) (door_met os _)) ?_
  intro W base args ds gs before hval0 hW _ _ hL _
  have hval : ∀ (j : Nat) t v, Tryd.f5.params[j]? = some t → args[j]? = some v → Value.okWide Tryd.prog W .any base t v := hval0
  have hW' := hW
  obtain ⟨p, q, hA0, hV, rfl, hfz, hnd⟩ := hW
  have hA : DataW.TrodAll enc Tryd.prog W 0 (fun _ => true) true Tryd.f5.params.toList args.toList ds p := hA0
  rw [Tryd.params5] at hA hval
  obtain ⟨v0, vs0, d0, ds0, p0, q0, hargs, rfl, rfl, h0, r0⟩ := trodAll_cons hA
  obtain ⟨rfl, rfl, rfl⟩ := trodAll_nil r0
  obtain rfl : args = #[v0] := by cases args; simp_all
  obtain ⟨rfl, rfl⟩ := trodVars_none hV
  obtain ⟨a0, rfl, rfl, rfl, w0⟩ := open_string Tryd.underlying9 (hval 0 9 v0 rfl rfl) h0
  clear hA0 hval0
  simp only [List.append_nil] at hW'
  have hL' := hL
  rw [MakeChecks.laidMetH_plain _ _ _ (by kernel_rfl)] at hL'
  refine (walk a0 W w0 (vars_of hL')).mono fun e W' ⟨he, hb⟩ => ?_
  subst he
  exact ⟨_, rfl, _, _, _, [], [], [], hW', trodAll_mk1 (shut_bool Tryd.underlying4 _), (trodAll_cons_mk (shut_string Tryd.underlying9 w0) trodAll_mk0), rfl, hb.frame _, fun h => by cases h⟩

theorem over : Rows.FnExactParseIntSaid :=
  OpenClaim.holds_of_wide 5 Tryd.f5 rfl rfl rfl rfl rfl rfl rfl ⟨rfl, rfl, rfl, rfl, rfl⟩ rfl rfl rfl rfl rfl (by kernel_rfl) Tryd.func5 (by kernel_rfl)
    (of_decide_eq_true (by kernel_rfl)) (by unfold Func.isWrapper; first | (rw [if_pos (by decide +kernel)]; kernel_rfl) | (rw [if_neg (by decide +kernel)]; exact ⟨rfl, rfl⟩))
    (fun os started H enc _ => lifted os started H enc)

theorem proved : Rows.FnExactParseIntCardSaid :=
  Claim7.holds_tied_plain_at .later [] [.data, .data, .data, .sentinel, .sentinel] true (true, "abb85c921146f61a365de4c871a6bb3e35e6a2bec174cc1cab53c5a1a24ed55a") true
    over (fun _ h => by cases h) (by kernel_rfl) (fun _ h => by cases h) fnExactParseInt_row_tie rfl ⟨rfl, rfl⟩ (by kernel_rfl) rfl
    (fun f fn hf hfn => by
      obtain rfl : f = 5 := Option.some.inj ((show Tryd.prog.funcNamed "loop.example/g01141/laws.FnExactParseInt" = some 5 by kernel_rfl).symm.trans hf) |>.symm
      obtain rfl : fn = Tryd.f5 := (Option.some.inj (Tryd.func5.symm.trans hfn)).symm
      exact ⟨by kernel_rfl, fun j t ht => by
        rw [Tryd.params5] at ht
        have hm : t ∈ [9] := by simpa using Array.mem_of_getElem? ht
        have hall : ([9].all fun u => !Tryd.prog.wantsStandIn u) = true := by kernel_rfl
        exact (show Tryd.prog.wantsStandIn t = false by simpa using List.all_eq_true.1 hall t hm)⟩)
    (by kernel_rfl)
#print axioms proved
end Go.Proofs.YtlbigpkajfdkjaaDoor.pint
