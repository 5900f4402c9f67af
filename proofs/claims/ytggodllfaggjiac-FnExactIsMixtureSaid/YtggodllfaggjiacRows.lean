/-
  No cell of these rows narrows 'for every input' (looked for: loops, veiled, ifaces, maps, wideKeys, modest, calm, conditions, laid).
  DERIVED. THE GIVEN ROWS OF THIS SEAT. 11 by the template 'for every input the law returns true; each argument reads behind the call as it read before'; 0 by the template 'total and deterministic' (their statements: YtggodllfaggjiacTotals.lean).
  GIVEN WITH THE SEED: the statements are not yours to turn. If you find one false, say at which input.
  Laid BY PROGRAM, IN A SANDBOX (cutbox-rows.mjs): the forced cells as the released guide's own fill.sh prints them over the translation 7fe14131bf8145fe… (all of the seat's roots in one cut). By AI agents, Wed Nov 11 2026. No macro, syntax, notation, axiom, sorry.
-/
import Derived.Test.YtggodllfaggjiacChecked
import GoSem.Claim
import GoSem.ClaimJoined
import GoSem.ClaimMapViews
import Derived.JoinedTies
import Derived.KernelRfl
namespace Go.Proofs.Ytggodllfaggjiac
/- THE CELL 'sum', in the pinned program and in every row, IS THE sha256 OF THE DUMP (.gsa) THAT YtggodllfaggjiacProg.lean LOADS. Nothing in Lean hashes anything: it is a label: what it is worth is what the hold of that sum in a sandbox is worth. -/
noncomputable def Try.pinned : Pinned := { name := "ytggodllfaggjiac", sum := "7fe14131bf8145fec3618e1b3cb6f4449a0ba2684d3e8f41cd29d1d4daa38a44", checked := Try.checked }
namespace Rows
def none {H : Type} : Left H := { results := [], args := [] }

/-- 'laws.FnExactIsMixture': WHATEVER THE INPUT: true; the input reads as it did. -/
def fnExactIsMixtureSpec : ChangeSpec := { name := "fnExactIsMixture", fn := fun _ => fun
  | [d1, d2] => { results := [.lit (.bool true)], args := [d1, d2] }
  | _ => none }
def fnExactIsMixtureRow : OpenClaim := { program := "ytggodllfaggjiac", sum := "7fe14131bf8145fec3618e1b3cb6f4449a0ba2684d3e8f41cd29d1d4daa38a44", func := "loop.example/g01141/laws.FnExactIsMixture", spec := "fnExactIsMixture", unfollowed := true, recurses := true, plainKeys := false, apart := false }
def FnExactIsMixtureSaid : Prop := fnExactIsMixtureRow.holds Try.pinned (OpenSpec.ofChange fnExactIsMixtureSpec)

/-- ITS FALSE NEIGHBOUR: 'it returns false'. Refute it at one input. -/
def fnExactIsMixtureWrong : ChangeSpec := { name := "fnExactIsMixture", fn := fun _ => fun
  | [d1, d2] => { results := [.lit (.bool false)], args := [d1, d2] }
  | _ => none }
def FnExactIsMixtureWrongFalsely : Prop := fnExactIsMixtureRow.holds Try.pinned (OpenSpec.ofChange fnExactIsMixtureWrong)

/-- 'laws.FnExactSumFunctional': WHATEVER THE INPUT: true; the input reads as it did. -/
def fnExactSumFunctionalSpec : ChangeSpec := { name := "fnExactSumFunctional", fn := fun _ => fun
  | [d1, d2, d3, d4, d5] => { results := [.lit (.bool true)], args := [d1, d2, d3, d4, d5] }
  | _ => none }
def fnExactSumFunctionalRow : OpenClaim := { program := "ytggodllfaggjiac", sum := "7fe14131bf8145fec3618e1b3cb6f4449a0ba2684d3e8f41cd29d1d4daa38a44", func := "loop.example/g01141/laws.FnExactSumFunctional", spec := "fnExactSumFunctional", plainKeys := false, apart := false }
def FnExactSumFunctionalSaid : Prop := fnExactSumFunctionalRow.holds Try.pinned (OpenSpec.ofChange fnExactSumFunctionalSpec)

/-- ITS FALSE NEIGHBOUR: 'it returns false'. Refute it at one input. -/
def fnExactSumFunctionalWrong : ChangeSpec := { name := "fnExactSumFunctional", fn := fun _ => fun
  | [d1, d2, d3, d4, d5] => { results := [.lit (.bool false)], args := [d1, d2, d3, d4, d5] }
  | _ => none }
def FnExactSumFunctionalWrongFalsely : Prop := fnExactSumFunctionalRow.holds Try.pinned (OpenSpec.ofChange fnExactSumFunctionalWrong)

/-- 'laws.FnExactSumOf': WHATEVER THE INPUT: true; the input reads as it did. -/
def fnExactSumOfSpec : ChangeSpec := { name := "fnExactSumOf", fn := fun _ => fun
  | [d1, d2, d3, d4] => { results := [.lit (.bool true)], args := [d1, d2, d3, d4] }
  | _ => none }
def fnExactSumOfRow : OpenClaim := { program := "ytggodllfaggjiac", sum := "7fe14131bf8145fec3618e1b3cb6f4449a0ba2684d3e8f41cd29d1d4daa38a44", func := "loop.example/g01141/laws.FnExactSumOf", spec := "fnExactSumOf", plainKeys := false, apart := false }
def FnExactSumOfSaid : Prop := fnExactSumOfRow.holds Try.pinned (OpenSpec.ofChange fnExactSumOfSpec)

/-- ITS FALSE NEIGHBOUR: 'it returns false'. Refute it at one input. -/
def fnExactSumOfWrong : ChangeSpec := { name := "fnExactSumOf", fn := fun _ => fun
  | [d1, d2, d3, d4] => { results := [.lit (.bool false)], args := [d1, d2, d3, d4] }
  | _ => none }
def FnExactSumOfWrongFalsely : Prop := fnExactSumOfRow.holds Try.pinned (OpenSpec.ofChange fnExactSumOfWrong)

/-- 'laws.FnExactBothValue': WHATEVER THE INPUT: true; the input reads as it did. -/
def fnExactBothValueSpec : ChangeSpec := { name := "fnExactBothValue", fn := fun _ => fun
  | [d1, d2] => { results := [.lit (.bool true)], args := [d1, d2] }
  | _ => none }
def fnExactBothValueRow : OpenClaim := { program := "ytggodllfaggjiac", sum := "7fe14131bf8145fec3618e1b3cb6f4449a0ba2684d3e8f41cd29d1d4daa38a44", func := "loop.example/g01141/laws.FnExactBothValue", spec := "fnExactBothValue", plainKeys := false, apart := false }
def FnExactBothValueSaid : Prop := fnExactBothValueRow.holds Try.pinned (OpenSpec.ofChange fnExactBothValueSpec)

/-- ITS FALSE NEIGHBOUR: 'it returns false'. Refute it at one input. -/
def fnExactBothValueWrong : ChangeSpec := { name := "fnExactBothValue", fn := fun _ => fun
  | [d1, d2] => { results := [.lit (.bool false)], args := [d1, d2] }
  | _ => none }
def FnExactBothValueWrongFalsely : Prop := fnExactBothValueRow.holds Try.pinned (OpenSpec.ofChange fnExactBothValueWrong)

/-- 'laws.FnExactGreatestSum': WHATEVER THE INPUT: true; the input reads as it did. -/
def fnExactGreatestSumSpec : ChangeSpec := { name := "fnExactGreatestSum", fn := fun _ => fun
  | [d] => { results := [.lit (.bool true)], args := [d] }
  | _ => none }
def fnExactGreatestSumRow : OpenClaim := { program := "ytggodllfaggjiac", sum := "7fe14131bf8145fec3618e1b3cb6f4449a0ba2684d3e8f41cd29d1d4daa38a44", func := "loop.example/g01141/laws.FnExactGreatestSum", spec := "fnExactGreatestSum", plainKeys := false, apart := false }
def FnExactGreatestSumSaid : Prop := fnExactGreatestSumRow.holds Try.pinned (OpenSpec.ofChange fnExactGreatestSumSpec)

/-- ITS FALSE NEIGHBOUR: 'it returns false'. Refute it at one input. -/
def fnExactGreatestSumWrong : ChangeSpec := { name := "fnExactGreatestSum", fn := fun _ => fun
  | [d] => { results := [.lit (.bool false)], args := [d] }
  | _ => none }
def FnExactGreatestSumWrongFalsely : Prop := fnExactGreatestSumRow.holds Try.pinned (OpenSpec.ofChange fnExactGreatestSumWrong)

/-- 'laws.FnExactFirstSum': WHATEVER THE INPUT: true; the input reads as it did. -/
def fnExactFirstSumSpec : ChangeSpec := { name := "fnExactFirstSum", fn := fun _ => fun
  | [d] => { results := [.lit (.bool true)], args := [d] }
  | _ => none }
def fnExactFirstSumRow : OpenClaim := { program := "ytggodllfaggjiac", sum := "7fe14131bf8145fec3618e1b3cb6f4449a0ba2684d3e8f41cd29d1d4daa38a44", func := "loop.example/g01141/laws.FnExactFirstSum", spec := "fnExactFirstSum", plainKeys := false, apart := false }
def FnExactFirstSumSaid : Prop := fnExactFirstSumRow.holds Try.pinned (OpenSpec.ofChange fnExactFirstSumSpec)

/-- ITS FALSE NEIGHBOUR: 'it returns false'. Refute it at one input. -/
def fnExactFirstSumWrong : ChangeSpec := { name := "fnExactFirstSum", fn := fun _ => fun
  | [d] => { results := [.lit (.bool false)], args := [d] }
  | _ => none }
def FnExactFirstSumWrongFalsely : Prop := fnExactFirstSumRow.holds Try.pinned (OpenSpec.ofChange fnExactFirstSumWrong)

/-- 'laws.FnExactSignBias': WHATEVER THE INPUT: true; the input reads as it did. -/
def fnExactSignBiasSpec : ChangeSpec := { name := "fnExactSignBias", fn := fun _ => fun
  | [d] => { results := [.lit (.bool true)], args := [d] }
  | _ => none }
def fnExactSignBiasRow : OpenClaim := { program := "ytggodllfaggjiac", sum := "7fe14131bf8145fec3618e1b3cb6f4449a0ba2684d3e8f41cd29d1d4daa38a44", func := "loop.example/g01141/laws.FnExactSignBias", spec := "fnExactSignBias", unfollowed := true, recurses := true, plainKeys := false, apart := false }
def FnExactSignBiasSaid : Prop := fnExactSignBiasRow.holds Try.pinned (OpenSpec.ofChange fnExactSignBiasSpec)

/-- ITS FALSE NEIGHBOUR: 'it returns false'. Refute it at one input. -/
def fnExactSignBiasWrong : ChangeSpec := { name := "fnExactSignBias", fn := fun _ => fun
  | [d] => { results := [.lit (.bool false)], args := [d] }
  | _ => none }
def FnExactSignBiasWrongFalsely : Prop := fnExactSignBiasRow.holds Try.pinned (OpenSpec.ofChange fnExactSignBiasWrong)

/-- 'laws.FnExactBestSigns': WHATEVER THE INPUT: true; the input reads as it did. -/
def fnExactBestSignsSpec : ChangeSpec := { name := "fnExactBestSigns", fn := fun _ => fun
  | [d] => { results := [.lit (.bool true)], args := [d] }
  | _ => none }
def fnExactBestSignsRow : OpenClaim := { program := "ytggodllfaggjiac", sum := "7fe14131bf8145fec3618e1b3cb6f4449a0ba2684d3e8f41cd29d1d4daa38a44", func := "loop.example/g01141/laws.FnExactBestSigns", spec := "fnExactBestSigns", unfollowed := true, recurses := true, plainKeys := false, apart := false }
def FnExactBestSignsSaid : Prop := fnExactBestSignsRow.holds Try.pinned (OpenSpec.ofChange fnExactBestSignsSpec)

/-- ITS FALSE NEIGHBOUR: 'it returns false'. Refute it at one input. -/
def fnExactBestSignsWrong : ChangeSpec := { name := "fnExactBestSigns", fn := fun _ => fun
  | [d] => { results := [.lit (.bool false)], args := [d] }
  | _ => none }
def FnExactBestSignsWrongFalsely : Prop := fnExactBestSignsRow.holds Try.pinned (OpenSpec.ofChange fnExactBestSignsWrong)

/-- 'laws.FnExactCutOf': WHATEVER THE INPUT: true; the input reads as it did. -/
def fnExactCutOfSpec : ChangeSpec := { name := "fnExactCutOf", fn := fun _ => fun
  | [d] => { results := [.lit (.bool true)], args := [d] }
  | _ => none }
def fnExactCutOfRow : OpenClaim := { program := "ytggodllfaggjiac", sum := "7fe14131bf8145fec3618e1b3cb6f4449a0ba2684d3e8f41cd29d1d4daa38a44", func := "loop.example/g01141/laws.FnExactCutOf", spec := "fnExactCutOf", unfollowed := true, recurses := true, plainKeys := false, apart := false }
def FnExactCutOfSaid : Prop := fnExactCutOfRow.holds Try.pinned (OpenSpec.ofChange fnExactCutOfSpec)

/-- ITS FALSE NEIGHBOUR: 'it returns false'. Refute it at one input. -/
def fnExactCutOfWrong : ChangeSpec := { name := "fnExactCutOf", fn := fun _ => fun
  | [d] => { results := [.lit (.bool false)], args := [d] }
  | _ => none }
def FnExactCutOfWrongFalsely : Prop := fnExactCutOfRow.holds Try.pinned (OpenSpec.ofChange fnExactCutOfWrong)

/-- 'laws.FnExactFirstSwitched': WHATEVER THE INPUT: true; the input reads as it did. -/
def fnExactFirstSwitchedSpec : ChangeSpec := { name := "fnExactFirstSwitched", fn := fun _ => fun
  | [d] => { results := [.lit (.bool true)], args := [d] }
  | _ => none }
def fnExactFirstSwitchedRow : OpenClaim := { program := "ytggodllfaggjiac", sum := "7fe14131bf8145fec3618e1b3cb6f4449a0ba2684d3e8f41cd29d1d4daa38a44", func := "loop.example/g01141/laws.FnExactFirstSwitched", spec := "fnExactFirstSwitched", unfollowed := true, recurses := true, plainKeys := false, apart := false }
def FnExactFirstSwitchedSaid : Prop := fnExactFirstSwitchedRow.holds Try.pinned (OpenSpec.ofChange fnExactFirstSwitchedSpec)

/-- ITS FALSE NEIGHBOUR: 'it returns false'. Refute it at one input. -/
def fnExactFirstSwitchedWrong : ChangeSpec := { name := "fnExactFirstSwitched", fn := fun _ => fun
  | [d] => { results := [.lit (.bool false)], args := [d] }
  | _ => none }
def FnExactFirstSwitchedWrongFalsely : Prop := fnExactFirstSwitchedRow.holds Try.pinned (OpenSpec.ofChange fnExactFirstSwitchedWrong)

/-- 'laws.FnExactAreSwitched': WHATEVER THE INPUT: true; the input reads as it did. -/
def fnExactAreSwitchedSpec : ChangeSpec := { name := "fnExactAreSwitched", fn := fun _ => fun
  | [d1, d2] => { results := [.lit (.bool true)], args := [d1, d2] }
  | _ => none }
def fnExactAreSwitchedRow : OpenClaim := { program := "ytggodllfaggjiac", sum := "7fe14131bf8145fec3618e1b3cb6f4449a0ba2684d3e8f41cd29d1d4daa38a44", func := "loop.example/g01141/laws.FnExactAreSwitched", spec := "fnExactAreSwitched", unfollowed := true, recurses := true, plainKeys := false, apart := false }
def FnExactAreSwitchedSaid : Prop := fnExactAreSwitchedRow.holds Try.pinned (OpenSpec.ofChange fnExactAreSwitchedSpec)

/-- ITS FALSE NEIGHBOUR: 'it returns false'. Refute it at one input. -/
def fnExactAreSwitchedWrong : ChangeSpec := { name := "fnExactAreSwitched", fn := fun _ => fun
  | [d1, d2] => { results := [.lit (.bool false)], args := [d1, d2] }
  | _ => none }
def FnExactAreSwitchedWrongFalsely : Prop := fnExactAreSwitchedRow.holds Try.pinned (OpenSpec.ofChange fnExactAreSwitchedWrong)

/- THE SECOND FORM. 'bulk': how many values and letters a reading holds, each counted each time it is reached (what is shared counts as often as it is met; a slice's spare places count too). A statement '..UptoSaid' is the law's where the arguments, and the package variables that the reading takes, are together of bulk at most 1048576: NARROWER than '..Said'. Prove '..Said' where nothing that the law and all that it calls make is longer than what came in: it says more and counts as full. Else prove '..UptoSaid'. A law counts once. -/
mutual
def uptoBulk {H : Type} : DataW H → Nat
  | .lit (.string bytes) => bytes.length + 1
  | .lit _ => 1
  | .nil => 1
  | .ptr d => uptoBulk d + 1
  | .slice elems spare => uptoBulkAll elems + uptoBulkAll spare + 1
  | .agg parts => uptoBulkAll parts + 1
  | .iface _ d => uptoBulk d + 1
  | .map entries => uptoBulkEntries entries + 1
  | .held _ => 1
def uptoBulkAll {H : Type} : List (DataW H) → Nat
  | [] => 0
  | d :: r => uptoBulk d + uptoBulkAll r
def uptoBulkEntries {H : Type} : List (Lit × DataW H) → Nat
  | [] => 0
  | x :: r => uptoBulkEntry x + uptoBulkEntries r
def uptoBulkEntry {H : Type} : Lit × DataW H → Nat
  | (.string bytes, d) => bytes.length + uptoBulk d + 1
  | (_, d) => uptoBulk d + 1
 end
def uptoSmall : (H : Type) → List (DataW H) → Bool := fun _ ds => decide (uptoBulkAll ds ≤ 1048576)
def OpenSpec.upto (s : _root_.Go.ChangeSpec) : _root_.Go.OpenSpec := { _root_.Go.OpenSpec.ofChange s with cond := some uptoSmall }

/-- 'laws.FnExactIsMixture', WHERE WHAT IT READS IS OF BULK AT MOST 1048576: true; the input reads as it did. -/
def fnExactIsMixtureUptoRow : OpenClaim := { program := "ytggodllfaggjiac", sum := "7fe14131bf8145fec3618e1b3cb6f4449a0ba2684d3e8f41cd29d1d4daa38a44", func := "loop.example/g01141/laws.FnExactIsMixture", spec := "fnExactIsMixture", unfollowed := true, recurses := true, plainKeys := false, apart := false, narrowed := true }
def FnExactIsMixtureUptoSaid : Prop := fnExactIsMixtureUptoRow.holds Try.pinned (OpenSpec.upto fnExactIsMixtureSpec)

/-- 'laws.FnExactSumFunctional', WHERE WHAT IT READS IS OF BULK AT MOST 1048576: true; the input reads as it did. -/
def fnExactSumFunctionalUptoRow : OpenClaim := { program := "ytggodllfaggjiac", sum := "7fe14131bf8145fec3618e1b3cb6f4449a0ba2684d3e8f41cd29d1d4daa38a44", func := "loop.example/g01141/laws.FnExactSumFunctional", spec := "fnExactSumFunctional", plainKeys := false, apart := false, narrowed := true }
def FnExactSumFunctionalUptoSaid : Prop := fnExactSumFunctionalUptoRow.holds Try.pinned (OpenSpec.upto fnExactSumFunctionalSpec)

/-- 'laws.FnExactSumOf', WHERE WHAT IT READS IS OF BULK AT MOST 1048576: true; the input reads as it did. -/
def fnExactSumOfUptoRow : OpenClaim := { program := "ytggodllfaggjiac", sum := "7fe14131bf8145fec3618e1b3cb6f4449a0ba2684d3e8f41cd29d1d4daa38a44", func := "loop.example/g01141/laws.FnExactSumOf", spec := "fnExactSumOf", plainKeys := false, apart := false, narrowed := true }
def FnExactSumOfUptoSaid : Prop := fnExactSumOfUptoRow.holds Try.pinned (OpenSpec.upto fnExactSumOfSpec)

/-- 'laws.FnExactBothValue', WHERE WHAT IT READS IS OF BULK AT MOST 1048576: true; the input reads as it did. -/
def fnExactBothValueUptoRow : OpenClaim := { program := "ytggodllfaggjiac", sum := "7fe14131bf8145fec3618e1b3cb6f4449a0ba2684d3e8f41cd29d1d4daa38a44", func := "loop.example/g01141/laws.FnExactBothValue", spec := "fnExactBothValue", plainKeys := false, apart := false, narrowed := true }
def FnExactBothValueUptoSaid : Prop := fnExactBothValueUptoRow.holds Try.pinned (OpenSpec.upto fnExactBothValueSpec)

/-- 'laws.FnExactGreatestSum', WHERE WHAT IT READS IS OF BULK AT MOST 1048576: true; the input reads as it did. -/
def fnExactGreatestSumUptoRow : OpenClaim := { program := "ytggodllfaggjiac", sum := "7fe14131bf8145fec3618e1b3cb6f4449a0ba2684d3e8f41cd29d1d4daa38a44", func := "loop.example/g01141/laws.FnExactGreatestSum", spec := "fnExactGreatestSum", plainKeys := false, apart := false, narrowed := true }
def FnExactGreatestSumUptoSaid : Prop := fnExactGreatestSumUptoRow.holds Try.pinned (OpenSpec.upto fnExactGreatestSumSpec)

/-- 'laws.FnExactFirstSum', WHERE WHAT IT READS IS OF BULK AT MOST 1048576: true; the input reads as it did. -/
def fnExactFirstSumUptoRow : OpenClaim := { program := "ytggodllfaggjiac", sum := "7fe14131bf8145fec3618e1b3cb6f4449a0ba2684d3e8f41cd29d1d4daa38a44", func := "loop.example/g01141/laws.FnExactFirstSum", spec := "fnExactFirstSum", plainKeys := false, apart := false, narrowed := true }
def FnExactFirstSumUptoSaid : Prop := fnExactFirstSumUptoRow.holds Try.pinned (OpenSpec.upto fnExactFirstSumSpec)

/-- 'laws.FnExactSignBias', WHERE WHAT IT READS IS OF BULK AT MOST 1048576: true; the input reads as it did. -/
def fnExactSignBiasUptoRow : OpenClaim := { program := "ytggodllfaggjiac", sum := "7fe14131bf8145fec3618e1b3cb6f4449a0ba2684d3e8f41cd29d1d4daa38a44", func := "loop.example/g01141/laws.FnExactSignBias", spec := "fnExactSignBias", unfollowed := true, recurses := true, plainKeys := false, apart := false, narrowed := true }
def FnExactSignBiasUptoSaid : Prop := fnExactSignBiasUptoRow.holds Try.pinned (OpenSpec.upto fnExactSignBiasSpec)

/-- 'laws.FnExactBestSigns', WHERE WHAT IT READS IS OF BULK AT MOST 1048576: true; the input reads as it did. -/
def fnExactBestSignsUptoRow : OpenClaim := { program := "ytggodllfaggjiac", sum := "7fe14131bf8145fec3618e1b3cb6f4449a0ba2684d3e8f41cd29d1d4daa38a44", func := "loop.example/g01141/laws.FnExactBestSigns", spec := "fnExactBestSigns", unfollowed := true, recurses := true, plainKeys := false, apart := false, narrowed := true }
def FnExactBestSignsUptoSaid : Prop := fnExactBestSignsUptoRow.holds Try.pinned (OpenSpec.upto fnExactBestSignsSpec)

/-- 'laws.FnExactCutOf', WHERE WHAT IT READS IS OF BULK AT MOST 1048576: true; the input reads as it did. -/
def fnExactCutOfUptoRow : OpenClaim := { program := "ytggodllfaggjiac", sum := "7fe14131bf8145fec3618e1b3cb6f4449a0ba2684d3e8f41cd29d1d4daa38a44", func := "loop.example/g01141/laws.FnExactCutOf", spec := "fnExactCutOf", unfollowed := true, recurses := true, plainKeys := false, apart := false, narrowed := true }
def FnExactCutOfUptoSaid : Prop := fnExactCutOfUptoRow.holds Try.pinned (OpenSpec.upto fnExactCutOfSpec)

/-- 'laws.FnExactFirstSwitched', WHERE WHAT IT READS IS OF BULK AT MOST 1048576: true; the input reads as it did. -/
def fnExactFirstSwitchedUptoRow : OpenClaim := { program := "ytggodllfaggjiac", sum := "7fe14131bf8145fec3618e1b3cb6f4449a0ba2684d3e8f41cd29d1d4daa38a44", func := "loop.example/g01141/laws.FnExactFirstSwitched", spec := "fnExactFirstSwitched", unfollowed := true, recurses := true, plainKeys := false, apart := false, narrowed := true }
def FnExactFirstSwitchedUptoSaid : Prop := fnExactFirstSwitchedUptoRow.holds Try.pinned (OpenSpec.upto fnExactFirstSwitchedSpec)

/-- 'laws.FnExactAreSwitched', WHERE WHAT IT READS IS OF BULK AT MOST 1048576: true; the input reads as it did. -/
def fnExactAreSwitchedUptoRow : OpenClaim := { program := "ytggodllfaggjiac", sum := "7fe14131bf8145fec3618e1b3cb6f4449a0ba2684d3e8f41cd29d1d4daa38a44", func := "loop.example/g01141/laws.FnExactAreSwitched", spec := "fnExactAreSwitched", unfollowed := true, recurses := true, plainKeys := false, apart := false, narrowed := true }
def FnExactAreSwitchedUptoSaid : Prop := fnExactAreSwitchedUptoRow.holds Try.pinned (OpenSpec.upto fnExactAreSwitchedSpec)

end Rows
end Go.Proofs.Ytggodllfaggjiac
