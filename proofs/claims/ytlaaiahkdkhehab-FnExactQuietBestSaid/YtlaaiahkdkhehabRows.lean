/-
  No cell of these rows narrows 'for every input' (looked for: loops, veiled, ifaces, maps, wideKeys, modest, calm, conditions, laid).
  DERIVED. THE GIVEN ROWS OF THIS SEAT. 12 by the template 'for every input the law returns true; each argument reads behind the call as it read before'; 0 by the template 'total and deterministic' (their statements: YtlaaiahkdkhehabTotals.lean).
  GIVEN WITH THE SEED: the statements are not yours to turn. If you find one false, say at which input.
  Laid BY PROGRAM, IN A SANDBOX (cutbox-rows.mjs): the forced cells as the released guide's own fill.sh prints them over the translation 8702f849922f0b52… (all of the seat's roots in one cut). By AI agents, Wed Nov 11 2026. No macro, syntax, notation, axiom, sorry.
-/
import Derived.Test.YtlaaiahkdkhehabChecked
import GoSem.Claim
import GoSem.ClaimJoined
import GoSem.ClaimMapViews
import Derived.JoinedTies
import Derived.KernelRfl
namespace Go.Proofs.Ytlaaiahkdkhehab
/- THE CELL 'sum', in the pinned program and in every row, IS THE sha256 OF THE DUMP (.gsa) THAT YtlaaiahkdkhehabProg.lean LOADS. Nothing in Lean hashes anything: it is a label: what it is worth is what the hold of that sum in a sandbox is worth. -/
noncomputable def Try.pinned : Pinned := { name := "ytlaaiahkdkhehab", sum := "8702f849922f0b521fe728c7ecaaa2dbfaafee8e3e1bff81200cc316b33c696f", checked := Try.checked }
namespace Rows
def none {H : Type} : Left H := { results := [], args := [] }

/-- 'laws.FnExactQuietBest': WHATEVER THE INPUT: true; the input reads as it did. -/
def fnExactQuietBestSpec : ChangeSpec := { name := "fnExactQuietBest", fn := fun _ => fun
  | [d] => { results := [.lit (.bool true)], args := [d] }
  | _ => none }
def fnExactQuietBestRow : OpenClaim := { program := "ytlaaiahkdkhehab", sum := "8702f849922f0b521fe728c7ecaaa2dbfaafee8e3e1bff81200cc316b33c696f", func := "loop.example/g01141/laws.FnExactQuietBest", spec := "fnExactQuietBest", unfollowed := true, recurses := true, plainKeys := false, apart := false }
def FnExactQuietBestSaid : Prop := fnExactQuietBestRow.holds Try.pinned (OpenSpec.ofChange fnExactQuietBestSpec)

/-- ITS FALSE NEIGHBOUR: 'it returns false'. Refute it at one input. -/
def fnExactQuietBestWrong : ChangeSpec := { name := "fnExactQuietBest", fn := fun _ => fun
  | [d] => { results := [.lit (.bool false)], args := [d] }
  | _ => none }
def FnExactQuietBestWrongFalsely : Prop := fnExactQuietBestRow.holds Try.pinned (OpenSpec.ofChange fnExactQuietBestWrong)

/-- 'laws.FnExactTrimGame': WHATEVER THE INPUT: true; the input reads as it did. -/
def fnExactTrimGameSpec : ChangeSpec := { name := "fnExactTrimGame", fn := fun _ => fun
  | [d] => { results := [.lit (.bool true)], args := [d] }
  | _ => none }
def fnExactTrimGameRow : OpenClaim := { program := "ytlaaiahkdkhehab", sum := "8702f849922f0b521fe728c7ecaaa2dbfaafee8e3e1bff81200cc316b33c696f", func := "loop.example/g01141/laws.FnExactTrimGame", spec := "fnExactTrimGame", unfollowed := true, recurses := true, plainKeys := false, apart := false }
def FnExactTrimGameSaid : Prop := fnExactTrimGameRow.holds Try.pinned (OpenSpec.ofChange fnExactTrimGameSpec)

/-- ITS FALSE NEIGHBOUR: 'it returns false'. Refute it at one input. -/
def fnExactTrimGameWrong : ChangeSpec := { name := "fnExactTrimGame", fn := fun _ => fun
  | [d] => { results := [.lit (.bool false)], args := [d] }
  | _ => none }
def FnExactTrimGameWrongFalsely : Prop := fnExactTrimGameRow.holds Try.pinned (OpenSpec.ofChange fnExactTrimGameWrong)

/-- 'laws.FnExactSameByNames': WHATEVER THE INPUT: true; the input reads as it did. -/
def fnExactSameByNamesSpec : ChangeSpec := { name := "fnExactSameByNames", fn := fun _ => fun
  | [d1, d2] => { results := [.lit (.bool true)], args := [d1, d2] }
  | _ => none }
def fnExactSameByNamesRow : OpenClaim := { program := "ytlaaiahkdkhehab", sum := "8702f849922f0b521fe728c7ecaaa2dbfaafee8e3e1bff81200cc316b33c696f", func := "loop.example/g01141/laws.FnExactSameByNames", spec := "fnExactSameByNames", inPlace := ["slices.overlaps[int]"], unfollowed := true, recurses := true, plainKeys := false, apart := false }
def FnExactSameByNamesSaid : Prop := fnExactSameByNamesRow.holds Try.pinned (OpenSpec.ofChange fnExactSameByNamesSpec)

/-- ITS FALSE NEIGHBOUR: 'it returns false'. Refute it at one input. -/
def fnExactSameByNamesWrong : ChangeSpec := { name := "fnExactSameByNames", fn := fun _ => fun
  | [d1, d2] => { results := [.lit (.bool false)], args := [d1, d2] }
  | _ => none }
def FnExactSameByNamesWrongFalsely : Prop := fnExactSameByNamesRow.holds Try.pinned (OpenSpec.ofChange fnExactSameByNamesWrong)

/-- 'laws.FnExactMixtureBox': WHATEVER THE INPUT: true; the input reads as it did. -/
def fnExactMixtureBoxSpec : ChangeSpec := { name := "fnExactMixtureBox", fn := fun _ => fun
  | [d1, d2, d3] => { results := [.lit (.bool true)], args := [d1, d2, d3] }
  | _ => none }
def fnExactMixtureBoxRow : OpenClaim := { program := "ytlaaiahkdkhehab", sum := "8702f849922f0b521fe728c7ecaaa2dbfaafee8e3e1bff81200cc316b33c696f", func := "loop.example/g01141/laws.FnExactMixtureBox", spec := "fnExactMixtureBox", unfollowed := true, recurses := true, plainKeys := false, apart := false }
def FnExactMixtureBoxSaid : Prop := fnExactMixtureBoxRow.holds Try.pinned (OpenSpec.ofChange fnExactMixtureBoxSpec)

/-- ITS FALSE NEIGHBOUR: 'it returns false'. Refute it at one input. -/
def fnExactMixtureBoxWrong : ChangeSpec := { name := "fnExactMixtureBox", fn := fun _ => fun
  | [d1, d2, d3] => { results := [.lit (.bool false)], args := [d1, d2, d3] }
  | _ => none }
def FnExactMixtureBoxWrongFalsely : Prop := fnExactMixtureBoxRow.holds Try.pinned (OpenSpec.ofChange fnExactMixtureBoxWrong)

/-- 'laws.FnExactIsMixture': WHATEVER THE INPUT: true; the input reads as it did. -/
def fnExactIsMixtureSpec : ChangeSpec := { name := "fnExactIsMixture", fn := fun _ => fun
  | [d1, d2] => { results := [.lit (.bool true)], args := [d1, d2] }
  | _ => none }
def fnExactIsMixtureRow : OpenClaim := { program := "ytlaaiahkdkhehab", sum := "8702f849922f0b521fe728c7ecaaa2dbfaafee8e3e1bff81200cc316b33c696f", func := "loop.example/g01141/laws.FnExactIsMixture", spec := "fnExactIsMixture", unfollowed := true, recurses := true, plainKeys := false, apart := false }
def FnExactIsMixtureSaid : Prop := fnExactIsMixtureRow.holds Try.pinned (OpenSpec.ofChange fnExactIsMixtureSpec)

/-- ITS FALSE NEIGHBOUR: 'it returns false'. Refute it at one input. -/
def fnExactIsMixtureWrong : ChangeSpec := { name := "fnExactIsMixture", fn := fun _ => fun
  | [d1, d2] => { results := [.lit (.bool false)], args := [d1, d2] }
  | _ => none }
def FnExactIsMixtureWrongFalsely : Prop := fnExactIsMixtureRow.holds Try.pinned (OpenSpec.ofChange fnExactIsMixtureWrong)

/-- 'laws.FnExactSumFunctional': WHATEVER THE INPUT: true; the input reads as it did. -/
def fnExactSumFunctionalSpec : ChangeSpec := { name := "fnExactSumFunctional", fn := fun _ => fun
  | [d1, d2, d3, d4, d5] => { results := [.lit (.bool true)], args := [d1, d2, d3, d4, d5] }
  | _ => none }
def fnExactSumFunctionalRow : OpenClaim := { program := "ytlaaiahkdkhehab", sum := "8702f849922f0b521fe728c7ecaaa2dbfaafee8e3e1bff81200cc316b33c696f", func := "loop.example/g01141/laws.FnExactSumFunctional", spec := "fnExactSumFunctional", plainKeys := false, apart := false }
def FnExactSumFunctionalSaid : Prop := fnExactSumFunctionalRow.holds Try.pinned (OpenSpec.ofChange fnExactSumFunctionalSpec)

/-- ITS FALSE NEIGHBOUR: 'it returns false'. Refute it at one input. -/
def fnExactSumFunctionalWrong : ChangeSpec := { name := "fnExactSumFunctional", fn := fun _ => fun
  | [d1, d2, d3, d4, d5] => { results := [.lit (.bool false)], args := [d1, d2, d3, d4, d5] }
  | _ => none }
def FnExactSumFunctionalWrongFalsely : Prop := fnExactSumFunctionalRow.holds Try.pinned (OpenSpec.ofChange fnExactSumFunctionalWrong)

/-- 'laws.FnExactSumOf': WHATEVER THE INPUT: true; the input reads as it did. -/
def fnExactSumOfSpec : ChangeSpec := { name := "fnExactSumOf", fn := fun _ => fun
  | [d1, d2, d3, d4] => { results := [.lit (.bool true)], args := [d1, d2, d3, d4] }
  | _ => none }
def fnExactSumOfRow : OpenClaim := { program := "ytlaaiahkdkhehab", sum := "8702f849922f0b521fe728c7ecaaa2dbfaafee8e3e1bff81200cc316b33c696f", func := "loop.example/g01141/laws.FnExactSumOf", spec := "fnExactSumOf", plainKeys := false, apart := false }
def FnExactSumOfSaid : Prop := fnExactSumOfRow.holds Try.pinned (OpenSpec.ofChange fnExactSumOfSpec)

/-- ITS FALSE NEIGHBOUR: 'it returns false'. Refute it at one input. -/
def fnExactSumOfWrong : ChangeSpec := { name := "fnExactSumOf", fn := fun _ => fun
  | [d1, d2, d3, d4] => { results := [.lit (.bool false)], args := [d1, d2, d3, d4] }
  | _ => none }
def FnExactSumOfWrongFalsely : Prop := fnExactSumOfRow.holds Try.pinned (OpenSpec.ofChange fnExactSumOfWrong)

/-- 'laws.FnExactBothValue': WHATEVER THE INPUT: true; the input reads as it did. -/
def fnExactBothValueSpec : ChangeSpec := { name := "fnExactBothValue", fn := fun _ => fun
  | [d1, d2] => { results := [.lit (.bool true)], args := [d1, d2] }
  | _ => none }
def fnExactBothValueRow : OpenClaim := { program := "ytlaaiahkdkhehab", sum := "8702f849922f0b521fe728c7ecaaa2dbfaafee8e3e1bff81200cc316b33c696f", func := "loop.example/g01141/laws.FnExactBothValue", spec := "fnExactBothValue", plainKeys := false, apart := false }
def FnExactBothValueSaid : Prop := fnExactBothValueRow.holds Try.pinned (OpenSpec.ofChange fnExactBothValueSpec)

/-- ITS FALSE NEIGHBOUR: 'it returns false'. Refute it at one input. -/
def fnExactBothValueWrong : ChangeSpec := { name := "fnExactBothValue", fn := fun _ => fun
  | [d1, d2] => { results := [.lit (.bool false)], args := [d1, d2] }
  | _ => none }
def FnExactBothValueWrongFalsely : Prop := fnExactBothValueRow.holds Try.pinned (OpenSpec.ofChange fnExactBothValueWrong)

/-- 'laws.FnExactSignBias': WHATEVER THE INPUT: true; the input reads as it did. -/
def fnExactSignBiasSpec : ChangeSpec := { name := "fnExactSignBias", fn := fun _ => fun
  | [d] => { results := [.lit (.bool true)], args := [d] }
  | _ => none }
def fnExactSignBiasRow : OpenClaim := { program := "ytlaaiahkdkhehab", sum := "8702f849922f0b521fe728c7ecaaa2dbfaafee8e3e1bff81200cc316b33c696f", func := "loop.example/g01141/laws.FnExactSignBias", spec := "fnExactSignBias", unfollowed := true, recurses := true, plainKeys := false, apart := false }
def FnExactSignBiasSaid : Prop := fnExactSignBiasRow.holds Try.pinned (OpenSpec.ofChange fnExactSignBiasSpec)

/-- ITS FALSE NEIGHBOUR: 'it returns false'. Refute it at one input. -/
def fnExactSignBiasWrong : ChangeSpec := { name := "fnExactSignBias", fn := fun _ => fun
  | [d] => { results := [.lit (.bool false)], args := [d] }
  | _ => none }
def FnExactSignBiasWrongFalsely : Prop := fnExactSignBiasRow.holds Try.pinned (OpenSpec.ofChange fnExactSignBiasWrong)

/-- 'laws.FnExactBestSigns': WHATEVER THE INPUT: true; the input reads as it did. -/
def fnExactBestSignsSpec : ChangeSpec := { name := "fnExactBestSigns", fn := fun _ => fun
  | [d] => { results := [.lit (.bool true)], args := [d] }
  | _ => none }
def fnExactBestSignsRow : OpenClaim := { program := "ytlaaiahkdkhehab", sum := "8702f849922f0b521fe728c7ecaaa2dbfaafee8e3e1bff81200cc316b33c696f", func := "loop.example/g01141/laws.FnExactBestSigns", spec := "fnExactBestSigns", unfollowed := true, recurses := true, plainKeys := false, apart := false }
def FnExactBestSignsSaid : Prop := fnExactBestSignsRow.holds Try.pinned (OpenSpec.ofChange fnExactBestSignsSpec)

/-- ITS FALSE NEIGHBOUR: 'it returns false'. Refute it at one input. -/
def fnExactBestSignsWrong : ChangeSpec := { name := "fnExactBestSigns", fn := fun _ => fun
  | [d] => { results := [.lit (.bool false)], args := [d] }
  | _ => none }
def FnExactBestSignsWrongFalsely : Prop := fnExactBestSignsRow.holds Try.pinned (OpenSpec.ofChange fnExactBestSignsWrong)

/-- 'laws.FnExactCutOf': WHATEVER THE INPUT: true; the input reads as it did. -/
def fnExactCutOfSpec : ChangeSpec := { name := "fnExactCutOf", fn := fun _ => fun
  | [d] => { results := [.lit (.bool true)], args := [d] }
  | _ => none }
def fnExactCutOfRow : OpenClaim := { program := "ytlaaiahkdkhehab", sum := "8702f849922f0b521fe728c7ecaaa2dbfaafee8e3e1bff81200cc316b33c696f", func := "loop.example/g01141/laws.FnExactCutOf", spec := "fnExactCutOf", unfollowed := true, recurses := true, plainKeys := false, apart := false }
def FnExactCutOfSaid : Prop := fnExactCutOfRow.holds Try.pinned (OpenSpec.ofChange fnExactCutOfSpec)

/-- ITS FALSE NEIGHBOUR: 'it returns false'. Refute it at one input. -/
def fnExactCutOfWrong : ChangeSpec := { name := "fnExactCutOf", fn := fun _ => fun
  | [d] => { results := [.lit (.bool false)], args := [d] }
  | _ => none }
def FnExactCutOfWrongFalsely : Prop := fnExactCutOfRow.holds Try.pinned (OpenSpec.ofChange fnExactCutOfWrong)

/-- 'laws.FnExactFirstSwitched': WHATEVER THE INPUT: true; the input reads as it did. -/
def fnExactFirstSwitchedSpec : ChangeSpec := { name := "fnExactFirstSwitched", fn := fun _ => fun
  | [d] => { results := [.lit (.bool true)], args := [d] }
  | _ => none }
def fnExactFirstSwitchedRow : OpenClaim := { program := "ytlaaiahkdkhehab", sum := "8702f849922f0b521fe728c7ecaaa2dbfaafee8e3e1bff81200cc316b33c696f", func := "loop.example/g01141/laws.FnExactFirstSwitched", spec := "fnExactFirstSwitched", unfollowed := true, recurses := true, plainKeys := false, apart := false }
def FnExactFirstSwitchedSaid : Prop := fnExactFirstSwitchedRow.holds Try.pinned (OpenSpec.ofChange fnExactFirstSwitchedSpec)

/-- ITS FALSE NEIGHBOUR: 'it returns false'. Refute it at one input. -/
def fnExactFirstSwitchedWrong : ChangeSpec := { name := "fnExactFirstSwitched", fn := fun _ => fun
  | [d] => { results := [.lit (.bool false)], args := [d] }
  | _ => none }
def FnExactFirstSwitchedWrongFalsely : Prop := fnExactFirstSwitchedRow.holds Try.pinned (OpenSpec.ofChange fnExactFirstSwitchedWrong)

/- THE SECOND FORM. 'bulk': how many values and letters a reading holds, each counted each time it is reached (what is shared counts as often as it is met; a slice's spare places count too). A statement '..UptoSaid' is the law's where the arguments, and the package variables that the reading takes, are together of bulk at most 1048576: NARROWER than '..Said'. Prove '..Said' where nothing that the law and all that it calls make is longer than what came in: it says more and counts as full. Else prove '..UptoSaid'. A law counts once. -/
mutual
def uptoBulk {H : Type} : DataW H → Nat
  | .lit (.string bytes) => bytes.length + 1
  | .lit _ => 1
  | .nil => 1
  | .ptr d => uptoBulk d + 1
  | .slice elems spare => uptoBulkAll elems + uptoBulkAll spare + 1
  | .agg parts => uptoBulkAll parts + 1
  | .iface _ d => uptoBulk d + 1
  | .map entries => uptoBulkEntries entries + 1
  | .held _ => 1
def uptoBulkAll {H : Type} : List (DataW H) → Nat
  | [] => 0
  | d :: r => uptoBulk d + uptoBulkAll r
def uptoBulkEntries {H : Type} : List (Lit × DataW H) → Nat
  | [] => 0
  | x :: r => uptoBulkEntry x + uptoBulkEntries r
def uptoBulkEntry {H : Type} : Lit × DataW H → Nat
  | (.string bytes, d) => bytes.length + uptoBulk d + 1
  | (_, d) => uptoBulk d + 1
 end
def uptoSmall : (H : Type) → List (DataW H) → Bool := fun _ ds => decide (uptoBulkAll ds ≤ 1048576)
def OpenSpec.upto (s : _root_.Go.ChangeSpec) : _root_.Go.OpenSpec := { _root_.Go.OpenSpec.ofChange s with cond := some uptoSmall }

/-- 'laws.FnExactQuietBest', WHERE WHAT IT READS IS OF BULK AT MOST 1048576: true; the input reads as it did. -/
def fnExactQuietBestUptoRow : OpenClaim := { program := "ytlaaiahkdkhehab", sum := "8702f849922f0b521fe728c7ecaaa2dbfaafee8e3e1bff81200cc316b33c696f", func := "loop.example/g01141/laws.FnExactQuietBest", spec := "fnExactQuietBest", unfollowed := true, recurses := true, plainKeys := false, apart := false, narrowed := true }
def FnExactQuietBestUptoSaid : Prop := fnExactQuietBestUptoRow.holds Try.pinned (OpenSpec.upto fnExactQuietBestSpec)

/-- 'laws.FnExactTrimGame', WHERE WHAT IT READS IS OF BULK AT MOST 1048576: true; the input reads as it did. -/
def fnExactTrimGameUptoRow : OpenClaim := { program := "ytlaaiahkdkhehab", sum := "8702f849922f0b521fe728c7ecaaa2dbfaafee8e3e1bff81200cc316b33c696f", func := "loop.example/g01141/laws.FnExactTrimGame", spec := "fnExactTrimGame", unfollowed := true, recurses := true, plainKeys := false, apart := false, narrowed := true }
def FnExactTrimGameUptoSaid : Prop := fnExactTrimGameUptoRow.holds Try.pinned (OpenSpec.upto fnExactTrimGameSpec)

/-- 'laws.FnExactSameByNames', WHERE WHAT IT READS IS OF BULK AT MOST 1048576: true; the input reads as it did. -/
def fnExactSameByNamesUptoRow : OpenClaim := { program := "ytlaaiahkdkhehab", sum := "8702f849922f0b521fe728c7ecaaa2dbfaafee8e3e1bff81200cc316b33c696f", func := "loop.example/g01141/laws.FnExactSameByNames", spec := "fnExactSameByNames", inPlace := ["slices.overlaps[int]"], unfollowed := true, recurses := true, plainKeys := false, apart := false, narrowed := true }
def FnExactSameByNamesUptoSaid : Prop := fnExactSameByNamesUptoRow.holds Try.pinned (OpenSpec.upto fnExactSameByNamesSpec)

/-- 'laws.FnExactMixtureBox', WHERE WHAT IT READS IS OF BULK AT MOST 1048576: true; the input reads as it did. -/
def fnExactMixtureBoxUptoRow : OpenClaim := { program := "ytlaaiahkdkhehab", sum := "8702f849922f0b521fe728c7ecaaa2dbfaafee8e3e1bff81200cc316b33c696f", func := "loop.example/g01141/laws.FnExactMixtureBox", spec := "fnExactMixtureBox", unfollowed := true, recurses := true, plainKeys := false, apart := false, narrowed := true }
def FnExactMixtureBoxUptoSaid : Prop := fnExactMixtureBoxUptoRow.holds Try.pinned (OpenSpec.upto fnExactMixtureBoxSpec)

/-- 'laws.FnExactIsMixture', WHERE WHAT IT READS IS OF BULK AT MOST 1048576: true; the input reads as it did. -/
def fnExactIsMixtureUptoRow : OpenClaim := { program := "ytlaaiahkdkhehab", sum := "8702f849922f0b521fe728c7ecaaa2dbfaafee8e3e1bff81200cc316b33c696f", func := "loop.example/g01141/laws.FnExactIsMixture", spec := "fnExactIsMixture", unfollowed := true, recurses := true, plainKeys := false, apart := false, narrowed := true }
def FnExactIsMixtureUptoSaid : Prop := fnExactIsMixtureUptoRow.holds Try.pinned (OpenSpec.upto fnExactIsMixtureSpec)

/-- 'laws.FnExactSumFunctional', WHERE WHAT IT READS IS OF BULK AT MOST 1048576: true; the input reads as it did. -/
def fnExactSumFunctionalUptoRow : OpenClaim := { program := "ytlaaiahkdkhehab", sum := "8702f849922f0b521fe728c7ecaaa2dbfaafee8e3e1bff81200cc316b33c696f", func := "loop.example/g01141/laws.FnExactSumFunctional", spec := "fnExactSumFunctional", plainKeys := false, apart := false, narrowed := true }
def FnExactSumFunctionalUptoSaid : Prop := fnExactSumFunctionalUptoRow.holds Try.pinned (OpenSpec.upto fnExactSumFunctionalSpec)

/-- 'laws.FnExactSumOf', WHERE WHAT IT READS IS OF BULK AT MOST 1048576: true; the input reads as it did. -/
def fnExactSumOfUptoRow : OpenClaim := { program := "ytlaaiahkdkhehab", sum := "8702f849922f0b521fe728c7ecaaa2dbfaafee8e3e1bff81200cc316b33c696f", func := "loop.example/g01141/laws.FnExactSumOf", spec := "fnExactSumOf", plainKeys := false, apart := false, narrowed := true }
def FnExactSumOfUptoSaid : Prop := fnExactSumOfUptoRow.holds Try.pinned (OpenSpec.upto fnExactSumOfSpec)

/-- 'laws.FnExactBothValue', WHERE WHAT IT READS IS OF BULK AT MOST 1048576: true; the input reads as it did. -/
def fnExactBothValueUptoRow : OpenClaim := { program := "ytlaaiahkdkhehab", sum := "8702f849922f0b521fe728c7ecaaa2dbfaafee8e3e1bff81200cc316b33c696f", func := "loop.example/g01141/laws.FnExactBothValue", spec := "fnExactBothValue", plainKeys := false, apart := false, narrowed := true }
def FnExactBothValueUptoSaid : Prop := fnExactBothValueUptoRow.holds Try.pinned (OpenSpec.upto fnExactBothValueSpec)

/-- 'laws.FnExactSignBias', WHERE WHAT IT READS IS OF BULK AT MOST 1048576: true; the input reads as it did. -/
def fnExactSignBiasUptoRow : OpenClaim := { program := "ytlaaiahkdkhehab", sum := "8702f849922f0b521fe728c7ecaaa2dbfaafee8e3e1bff81200cc316b33c696f", func := "loop.example/g01141/laws.FnExactSignBias", spec := "fnExactSignBias", unfollowed := true, recurses := true, plainKeys := false, apart := false, narrowed := true }
def FnExactSignBiasUptoSaid : Prop := fnExactSignBiasUptoRow.holds Try.pinned (OpenSpec.upto fnExactSignBiasSpec)

/-- 'laws.FnExactBestSigns', WHERE WHAT IT READS IS OF BULK AT MOST 1048576: true; the input reads as it did. -/
def fnExactBestSignsUptoRow : OpenClaim := { program := "ytlaaiahkdkhehab", sum := "8702f849922f0b521fe728c7ecaaa2dbfaafee8e3e1bff81200cc316b33c696f", func := "loop.example/g01141/laws.FnExactBestSigns", spec := "fnExactBestSigns", unfollowed := true, recurses := true, plainKeys := false, apart := false, narrowed := true }
def FnExactBestSignsUptoSaid : Prop := fnExactBestSignsUptoRow.holds Try.pinned (OpenSpec.upto fnExactBestSignsSpec)

/-- 'laws.FnExactCutOf', WHERE WHAT IT READS IS OF BULK AT MOST 1048576: true; the input reads as it did. -/
def fnExactCutOfUptoRow : OpenClaim := { program := "ytlaaiahkdkhehab", sum := "8702f849922f0b521fe728c7ecaaa2dbfaafee8e3e1bff81200cc316b33c696f", func := "loop.example/g01141/laws.FnExactCutOf", spec := "fnExactCutOf", unfollowed := true, recurses := true, plainKeys := false, apart := false, narrowed := true }
def FnExactCutOfUptoSaid : Prop := fnExactCutOfUptoRow.holds Try.pinned (OpenSpec.upto fnExactCutOfSpec)

/-- 'laws.FnExactFirstSwitched', WHERE WHAT IT READS IS OF BULK AT MOST 1048576: true; the input reads as it did. -/
def fnExactFirstSwitchedUptoRow : OpenClaim := { program := "ytlaaiahkdkhehab", sum := "8702f849922f0b521fe728c7ecaaa2dbfaafee8e3e1bff81200cc316b33c696f", func := "loop.example/g01141/laws.FnExactFirstSwitched", spec := "fnExactFirstSwitched", unfollowed := true, recurses := true, plainKeys := false, apart := false, narrowed := true }
def FnExactFirstSwitchedUptoSaid : Prop := fnExactFirstSwitchedUptoRow.holds Try.pinned (OpenSpec.upto fnExactFirstSwitchedSpec)

end Rows
end Go.Proofs.Ytlaaiahkdkhehab
