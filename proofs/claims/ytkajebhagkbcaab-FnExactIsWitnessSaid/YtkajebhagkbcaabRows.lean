/-
  No cell of these rows narrows 'for every input' (looked for: loops, veiled, ifaces, maps, wideKeys, modest, calm, conditions, laid).
  DERIVED. THE GIVEN ROWS OF THIS SEAT. 12 by the template 'for every input the law returns true; each argument reads behind the call as it read before'; 0 by the template 'total and deterministic' (their statements: YtkajebhagkbcaabTotals.lean).
  GIVEN WITH THE SEED: the statements are not yours to turn. If you find one false, say at which input.
  Laid BY PROGRAM, IN A SANDBOX (cutbox-rows.mjs): the forced cells as the released guide's own fill.sh prints them over the translation 95dd812a04aef1fe… (all of the seat's roots in one cut). By AI agents, Wed Nov 11 2026. No macro, syntax, notation, axiom, sorry.
-/
import Derived.Test.YtkajebhagkbcaabChecked
import GoSem.Claim
import GoSem.ClaimJoined
import GoSem.ClaimMapViews
import Derived.JoinedTies
import Derived.KernelRfl
namespace Go.Proofs.Ytkajebhagkbcaab
/- THE CELL 'sum', in the pinned program and in every row, IS THE sha256 OF THE DUMP (.gsa) THAT YtkajebhagkbcaabProg.lean LOADS. Nothing in Lean hashes anything: it is a label: what it is worth is what the hold of that sum in a sandbox is worth. -/
noncomputable def Try.pinned : Pinned := { name := "ytkajebhagkbcaab", sum := "95dd812a04aef1fe1dfc82345bcaf7c41ebae04f778a8a4fe6897c3d964e6a3a", checked := Try.checked }
namespace Rows
def none {H : Type} : Left H := { results := [], args := [] }

/-- 'laws.FnExactLocalValue': WHATEVER THE INPUT: true; the input reads as it did. -/
def fnExactLocalValueSpec : ChangeSpec := { name := "fnExactLocalValue", fn := fun _ => fun
  | [d1, d2, d3] => { results := [.lit (.bool true)], args := [d1, d2, d3] }
  | _ => none }
def fnExactLocalValueRow : OpenClaim := { program := "ytkajebhagkbcaab", sum := "95dd812a04aef1fe1dfc82345bcaf7c41ebae04f778a8a4fe6897c3d964e6a3a", func := "loop.example/g01141/laws.FnExactLocalValue", spec := "fnExactLocalValue", unfollowed := true, recurses := true, plainKeys := false, apart := false }
def FnExactLocalValueSaid : Prop := fnExactLocalValueRow.holds Try.pinned (OpenSpec.ofChange fnExactLocalValueSpec)

/-- ITS FALSE NEIGHBOUR: 'it returns false'. Refute it at one input. -/
def fnExactLocalValueWrong : ChangeSpec := { name := "fnExactLocalValue", fn := fun _ => fun
  | [d1, d2, d3] => { results := [.lit (.bool false)], args := [d1, d2, d3] }
  | _ => none }
def FnExactLocalValueWrongFalsely : Prop := fnExactLocalValueRow.holds Try.pinned (OpenSpec.ofChange fnExactLocalValueWrong)

/-- 'laws.FnExactBestPlays': WHATEVER THE INPUT: true; the input reads as it did. -/
def fnExactBestPlaysSpec : ChangeSpec := { name := "fnExactBestPlays", fn := fun _ => fun
  | [d1, d2, d3] => { results := [.lit (.bool true)], args := [d1, d2, d3] }
  | _ => none }
def fnExactBestPlaysRow : OpenClaim := { program := "ytkajebhagkbcaab", sum := "95dd812a04aef1fe1dfc82345bcaf7c41ebae04f778a8a4fe6897c3d964e6a3a", func := "loop.example/g01141/laws.FnExactBestPlays", spec := "fnExactBestPlays", unfollowed := true, recurses := true, plainKeys := false, apart := false }
def FnExactBestPlaysSaid : Prop := fnExactBestPlaysRow.holds Try.pinned (OpenSpec.ofChange fnExactBestPlaysSpec)

/-- ITS FALSE NEIGHBOUR: 'it returns false'. Refute it at one input. -/
def fnExactBestPlaysWrong : ChangeSpec := { name := "fnExactBestPlays", fn := fun _ => fun
  | [d1, d2, d3] => { results := [.lit (.bool false)], args := [d1, d2, d3] }
  | _ => none }
def FnExactBestPlaysWrongFalsely : Prop := fnExactBestPlaysRow.holds Try.pinned (OpenSpec.ofChange fnExactBestPlaysWrong)

/-- 'laws.FnExactIsWitness': WHATEVER THE INPUT: true; the input reads as it did. -/
def fnExactIsWitnessSpec : ChangeSpec := { name := "fnExactIsWitness", fn := fun _ => fun
  | [d1, d2] => { results := [.lit (.bool true)], args := [d1, d2] }
  | _ => none }
def fnExactIsWitnessRow : OpenClaim := { program := "ytkajebhagkbcaab", sum := "95dd812a04aef1fe1dfc82345bcaf7c41ebae04f778a8a4fe6897c3d964e6a3a", func := "loop.example/g01141/laws.FnExactIsWitness", spec := "fnExactIsWitness", unfollowed := true, recurses := true, plainKeys := false, apart := false }
def FnExactIsWitnessSaid : Prop := fnExactIsWitnessRow.holds Try.pinned (OpenSpec.ofChange fnExactIsWitnessSpec)

/-- ITS FALSE NEIGHBOUR: 'it returns false'. Refute it at one input. -/
def fnExactIsWitnessWrong : ChangeSpec := { name := "fnExactIsWitness", fn := fun _ => fun
  | [d1, d2] => { results := [.lit (.bool false)], args := [d1, d2] }
  | _ => none }
def FnExactIsWitnessWrongFalsely : Prop := fnExactIsWitnessRow.holds Try.pinned (OpenSpec.ofChange fnExactIsWitnessWrong)

/-- 'laws.FnExactIsMixture': WHATEVER THE INPUT: true; the input reads as it did. -/
def fnExactIsMixtureSpec : ChangeSpec := { name := "fnExactIsMixture", fn := fun _ => fun
  | [d1, d2] => { results := [.lit (.bool true)], args := [d1, d2] }
  | _ => none }
def fnExactIsMixtureRow : OpenClaim := { program := "ytkajebhagkbcaab", sum := "95dd812a04aef1fe1dfc82345bcaf7c41ebae04f778a8a4fe6897c3d964e6a3a", func := "loop.example/g01141/laws.FnExactIsMixture", spec := "fnExactIsMixture", unfollowed := true, recurses := true, plainKeys := false, apart := false }
def FnExactIsMixtureSaid : Prop := fnExactIsMixtureRow.holds Try.pinned (OpenSpec.ofChange fnExactIsMixtureSpec)

/-- ITS FALSE NEIGHBOUR: 'it returns false'. Refute it at one input. -/
def fnExactIsMixtureWrong : ChangeSpec := { name := "fnExactIsMixture", fn := fun _ => fun
  | [d1, d2] => { results := [.lit (.bool false)], args := [d1, d2] }
  | _ => none }
def FnExactIsMixtureWrongFalsely : Prop := fnExactIsMixtureRow.holds Try.pinned (OpenSpec.ofChange fnExactIsMixtureWrong)

/-- 'laws.FnExactSumFunctional': WHATEVER THE INPUT: true; the input reads as it did. -/
def fnExactSumFunctionalSpec : ChangeSpec := { name := "fnExactSumFunctional", fn := fun _ => fun
  | [d1, d2, d3, d4, d5] => { results := [.lit (.bool true)], args := [d1, d2, d3, d4, d5] }
  | _ => none }
def fnExactSumFunctionalRow : OpenClaim := { program := "ytkajebhagkbcaab", sum := "95dd812a04aef1fe1dfc82345bcaf7c41ebae04f778a8a4fe6897c3d964e6a3a", func := "loop.example/g01141/laws.FnExactSumFunctional", spec := "fnExactSumFunctional", plainKeys := false, apart := false }
def FnExactSumFunctionalSaid : Prop := fnExactSumFunctionalRow.holds Try.pinned (OpenSpec.ofChange fnExactSumFunctionalSpec)

/-- ITS FALSE NEIGHBOUR: 'it returns false'. Refute it at one input. -/
def fnExactSumFunctionalWrong : ChangeSpec := { name := "fnExactSumFunctional", fn := fun _ => fun
  | [d1, d2, d3, d4, d5] => { results := [.lit (.bool false)], args := [d1, d2, d3, d4, d5] }
  | _ => none }
def FnExactSumFunctionalWrongFalsely : Prop := fnExactSumFunctionalRow.holds Try.pinned (OpenSpec.ofChange fnExactSumFunctionalWrong)

/-- 'laws.FnExactSumOf': WHATEVER THE INPUT: true; the input reads as it did. -/
def fnExactSumOfSpec : ChangeSpec := { name := "fnExactSumOf", fn := fun _ => fun
  | [d1, d2, d3, d4] => { results := [.lit (.bool true)], args := [d1, d2, d3, d4] }
  | _ => none }
def fnExactSumOfRow : OpenClaim := { program := "ytkajebhagkbcaab", sum := "95dd812a04aef1fe1dfc82345bcaf7c41ebae04f778a8a4fe6897c3d964e6a3a", func := "loop.example/g01141/laws.FnExactSumOf", spec := "fnExactSumOf", plainKeys := false, apart := false }
def FnExactSumOfSaid : Prop := fnExactSumOfRow.holds Try.pinned (OpenSpec.ofChange fnExactSumOfSpec)

/-- ITS FALSE NEIGHBOUR: 'it returns false'. Refute it at one input. -/
def fnExactSumOfWrong : ChangeSpec := { name := "fnExactSumOf", fn := fun _ => fun
  | [d1, d2, d3, d4] => { results := [.lit (.bool false)], args := [d1, d2, d3, d4] }
  | _ => none }
def FnExactSumOfWrongFalsely : Prop := fnExactSumOfRow.holds Try.pinned (OpenSpec.ofChange fnExactSumOfWrong)

/-- 'laws.FnExactGreatestSum': WHATEVER THE INPUT: true; the input reads as it did. -/
def fnExactGreatestSumSpec : ChangeSpec := { name := "fnExactGreatestSum", fn := fun _ => fun
  | [d] => { results := [.lit (.bool true)], args := [d] }
  | _ => none }
def fnExactGreatestSumRow : OpenClaim := { program := "ytkajebhagkbcaab", sum := "95dd812a04aef1fe1dfc82345bcaf7c41ebae04f778a8a4fe6897c3d964e6a3a", func := "loop.example/g01141/laws.FnExactGreatestSum", spec := "fnExactGreatestSum", plainKeys := false, apart := false }
def FnExactGreatestSumSaid : Prop := fnExactGreatestSumRow.holds Try.pinned (OpenSpec.ofChange fnExactGreatestSumSpec)

/-- ITS FALSE NEIGHBOUR: 'it returns false'. Refute it at one input. -/
def fnExactGreatestSumWrong : ChangeSpec := { name := "fnExactGreatestSum", fn := fun _ => fun
  | [d] => { results := [.lit (.bool false)], args := [d] }
  | _ => none }
def FnExactGreatestSumWrongFalsely : Prop := fnExactGreatestSumRow.holds Try.pinned (OpenSpec.ofChange fnExactGreatestSumWrong)

/-- 'laws.FnExactFirstSum': WHATEVER THE INPUT: true; the input reads as it did. -/
def fnExactFirstSumSpec : ChangeSpec := { name := "fnExactFirstSum", fn := fun _ => fun
  | [d] => { results := [.lit (.bool true)], args := [d] }
  | _ => none }
def fnExactFirstSumRow : OpenClaim := { program := "ytkajebhagkbcaab", sum := "95dd812a04aef1fe1dfc82345bcaf7c41ebae04f778a8a4fe6897c3d964e6a3a", func := "loop.example/g01141/laws.FnExactFirstSum", spec := "fnExactFirstSum", plainKeys := false, apart := false }
def FnExactFirstSumSaid : Prop := fnExactFirstSumRow.holds Try.pinned (OpenSpec.ofChange fnExactFirstSumSpec)

/-- ITS FALSE NEIGHBOUR: 'it returns false'. Refute it at one input. -/
def fnExactFirstSumWrong : ChangeSpec := { name := "fnExactFirstSum", fn := fun _ => fun
  | [d] => { results := [.lit (.bool false)], args := [d] }
  | _ => none }
def FnExactFirstSumWrongFalsely : Prop := fnExactFirstSumRow.holds Try.pinned (OpenSpec.ofChange fnExactFirstSumWrong)

/-- 'laws.FnExactGameFunctional': WHATEVER THE INPUT: true; the input reads as it did. -/
def fnExactGameFunctionalSpec : ChangeSpec := { name := "fnExactGameFunctional", fn := fun _ => fun
  | [d] => { results := [.lit (.bool true)], args := [d] }
  | _ => none }
def fnExactGameFunctionalRow : OpenClaim := { program := "ytkajebhagkbcaab", sum := "95dd812a04aef1fe1dfc82345bcaf7c41ebae04f778a8a4fe6897c3d964e6a3a", func := "loop.example/g01141/laws.FnExactGameFunctional", spec := "fnExactGameFunctional", unfollowed := true, recurses := true, plainKeys := false, apart := false }
def FnExactGameFunctionalSaid : Prop := fnExactGameFunctionalRow.holds Try.pinned (OpenSpec.ofChange fnExactGameFunctionalSpec)

/-- ITS FALSE NEIGHBOUR: 'it returns false'. Refute it at one input. -/
def fnExactGameFunctionalWrong : ChangeSpec := { name := "fnExactGameFunctional", fn := fun _ => fun
  | [d] => { results := [.lit (.bool false)], args := [d] }
  | _ => none }
def FnExactGameFunctionalWrongFalsely : Prop := fnExactGameFunctionalRow.holds Try.pinned (OpenSpec.ofChange fnExactGameFunctionalWrong)

/-- 'laws.FnExactBoxScore': WHATEVER THE INPUT: true; the input reads as it did. -/
def fnExactBoxScoreSpec : ChangeSpec := { name := "fnExactBoxScore", fn := fun _ => fun
  | [d1, d2] => { results := [.lit (.bool true)], args := [d1, d2] }
  | _ => none }
def fnExactBoxScoreRow : OpenClaim := { program := "ytkajebhagkbcaab", sum := "95dd812a04aef1fe1dfc82345bcaf7c41ebae04f778a8a4fe6897c3d964e6a3a", func := "loop.example/g01141/laws.FnExactBoxScore", spec := "fnExactBoxScore", unfollowed := true, recurses := true, plainKeys := false, apart := false }
def FnExactBoxScoreSaid : Prop := fnExactBoxScoreRow.holds Try.pinned (OpenSpec.ofChange fnExactBoxScoreSpec)

/-- ITS FALSE NEIGHBOUR: 'it returns false'. Refute it at one input. -/
def fnExactBoxScoreWrong : ChangeSpec := { name := "fnExactBoxScore", fn := fun _ => fun
  | [d1, d2] => { results := [.lit (.bool false)], args := [d1, d2] }
  | _ => none }
def FnExactBoxScoreWrongFalsely : Prop := fnExactBoxScoreRow.holds Try.pinned (OpenSpec.ofChange fnExactBoxScoreWrong)

/-- 'laws.FnExactSignGame': WHATEVER THE INPUT: true; the input reads as it did. -/
def fnExactSignGameSpec : ChangeSpec := { name := "fnExactSignGame", fn := fun _ => fun
  | [d1, d2, d3, d4] => { results := [.lit (.bool true)], args := [d1, d2, d3, d4] }
  | _ => none }
def fnExactSignGameRow : OpenClaim := { program := "ytkajebhagkbcaab", sum := "95dd812a04aef1fe1dfc82345bcaf7c41ebae04f778a8a4fe6897c3d964e6a3a", func := "loop.example/g01141/laws.FnExactSignGame", spec := "fnExactSignGame", unfollowed := true, recurses := true, plainKeys := false, apart := false }
def FnExactSignGameSaid : Prop := fnExactSignGameRow.holds Try.pinned (OpenSpec.ofChange fnExactSignGameSpec)

/-- ITS FALSE NEIGHBOUR: 'it returns false'. Refute it at one input. -/
def fnExactSignGameWrong : ChangeSpec := { name := "fnExactSignGame", fn := fun _ => fun
  | [d1, d2, d3, d4] => { results := [.lit (.bool false)], args := [d1, d2, d3, d4] }
  | _ => none }
def FnExactSignGameWrongFalsely : Prop := fnExactSignGameRow.holds Try.pinned (OpenSpec.ofChange fnExactSignGameWrong)

/-- 'laws.FnExactFlipGame': WHATEVER THE INPUT: true; the input reads as it did. -/
def fnExactFlipGameSpec : ChangeSpec := { name := "fnExactFlipGame", fn := fun _ => fun
  | [d1, d2] => { results := [.lit (.bool true)], args := [d1, d2] }
  | _ => none }
def fnExactFlipGameRow : OpenClaim := { program := "ytkajebhagkbcaab", sum := "95dd812a04aef1fe1dfc82345bcaf7c41ebae04f778a8a4fe6897c3d964e6a3a", func := "loop.example/g01141/laws.FnExactFlipGame", spec := "fnExactFlipGame", unfollowed := true, recurses := true, plainKeys := false, apart := false }
def FnExactFlipGameSaid : Prop := fnExactFlipGameRow.holds Try.pinned (OpenSpec.ofChange fnExactFlipGameSpec)

/-- ITS FALSE NEIGHBOUR: 'it returns false'. Refute it at one input. -/
def fnExactFlipGameWrong : ChangeSpec := { name := "fnExactFlipGame", fn := fun _ => fun
  | [d1, d2] => { results := [.lit (.bool false)], args := [d1, d2] }
  | _ => none }
def FnExactFlipGameWrongFalsely : Prop := fnExactFlipGameRow.holds Try.pinned (OpenSpec.ofChange fnExactFlipGameWrong)

/- THE SECOND FORM. 'bulk': how many values and letters a reading holds, each counted each time it is reached (what is shared counts as often as it is met; a slice's spare places count too). A statement '..UptoSaid' is the law's where the arguments, and the package variables that the reading takes, are together of bulk at most 1048576: NARROWER than '..Said'. Prove '..Said' where nothing that the law and all that it calls make is longer than what came in: it says more and counts as full. Else prove '..UptoSaid'. A law counts once. -/
mutual
def uptoBulk {H : Type} : DataW H → Nat
  | .lit (.string bytes) => bytes.length + 1
  | .lit _ => 1
  | .nil => 1
  | .ptr d => uptoBulk d + 1
  | .slice elems spare => uptoBulkAll elems + uptoBulkAll spare + 1
  | .agg parts => uptoBulkAll parts + 1
  | .iface _ d => uptoBulk d + 1
  | .map entries => uptoBulkEntries entries + 1
  | .held _ => 1
def uptoBulkAll {H : Type} : List (DataW H) → Nat
  | [] => 0
  | d :: r => uptoBulk d + uptoBulkAll r
def uptoBulkEntries {H : Type} : List (Lit × DataW H) → Nat
  | [] => 0
  | x :: r => uptoBulkEntry x + uptoBulkEntries r
def uptoBulkEntry {H : Type} : Lit × DataW H → Nat
  | (.string bytes, d) => bytes.length + uptoBulk d + 1
  | (_, d) => uptoBulk d + 1
 end
def uptoSmall : (H : Type) → List (DataW H) → Bool := fun _ ds => decide (uptoBulkAll ds ≤ 1048576)
def OpenSpec.upto (s : _root_.Go.ChangeSpec) : _root_.Go.OpenSpec := { _root_.Go.OpenSpec.ofChange s with cond := some uptoSmall }

/-- 'laws.FnExactLocalValue', WHERE WHAT IT READS IS OF BULK AT MOST 1048576: true; the input reads as it did. -/
def fnExactLocalValueUptoRow : OpenClaim := { program := "ytkajebhagkbcaab", sum := "95dd812a04aef1fe1dfc82345bcaf7c41ebae04f778a8a4fe6897c3d964e6a3a", func := "loop.example/g01141/laws.FnExactLocalValue", spec := "fnExactLocalValue", unfollowed := true, recurses := true, plainKeys := false, apart := false, narrowed := true }
def FnExactLocalValueUptoSaid : Prop := fnExactLocalValueUptoRow.holds Try.pinned (OpenSpec.upto fnExactLocalValueSpec)

/-- 'laws.FnExactBestPlays', WHERE WHAT IT READS IS OF BULK AT MOST 1048576: true; the input reads as it did. -/
def fnExactBestPlaysUptoRow : OpenClaim := { program := "ytkajebhagkbcaab", sum := "95dd812a04aef1fe1dfc82345bcaf7c41ebae04f778a8a4fe6897c3d964e6a3a", func := "loop.example/g01141/laws.FnExactBestPlays", spec := "fnExactBestPlays", unfollowed := true, recurses := true, plainKeys := false, apart := false, narrowed := true }
def FnExactBestPlaysUptoSaid : Prop := fnExactBestPlaysUptoRow.holds Try.pinned (OpenSpec.upto fnExactBestPlaysSpec)

/-- 'laws.FnExactIsWitness', WHERE WHAT IT READS IS OF BULK AT MOST 1048576: true; the input reads as it did. -/
def fnExactIsWitnessUptoRow : OpenClaim := { program := "ytkajebhagkbcaab", sum := "95dd812a04aef1fe1dfc82345bcaf7c41ebae04f778a8a4fe6897c3d964e6a3a", func := "loop.example/g01141/laws.FnExactIsWitness", spec := "fnExactIsWitness", unfollowed := true, recurses := true, plainKeys := false, apart := false, narrowed := true }
def FnExactIsWitnessUptoSaid : Prop := fnExactIsWitnessUptoRow.holds Try.pinned (OpenSpec.upto fnExactIsWitnessSpec)

/-- 'laws.FnExactIsMixture', WHERE WHAT IT READS IS OF BULK AT MOST 1048576: true; the input reads as it did. -/
def fnExactIsMixtureUptoRow : OpenClaim := { program := "ytkajebhagkbcaab", sum := "95dd812a04aef1fe1dfc82345bcaf7c41ebae04f778a8a4fe6897c3d964e6a3a", func := "loop.example/g01141/laws.FnExactIsMixture", spec := "fnExactIsMixture", unfollowed := true, recurses := true, plainKeys := false, apart := false, narrowed := true }
def FnExactIsMixtureUptoSaid : Prop := fnExactIsMixtureUptoRow.holds Try.pinned (OpenSpec.upto fnExactIsMixtureSpec)

/-- 'laws.FnExactSumFunctional', WHERE WHAT IT READS IS OF BULK AT MOST 1048576: true; the input reads as it did. -/
def fnExactSumFunctionalUptoRow : OpenClaim := { program := "ytkajebhagkbcaab", sum := "95dd812a04aef1fe1dfc82345bcaf7c41ebae04f778a8a4fe6897c3d964e6a3a", func := "loop.example/g01141/laws.FnExactSumFunctional", spec := "fnExactSumFunctional", plainKeys := false, apart := false, narrowed := true }
def FnExactSumFunctionalUptoSaid : Prop := fnExactSumFunctionalUptoRow.holds Try.pinned (OpenSpec.upto fnExactSumFunctionalSpec)

/-- 'laws.FnExactSumOf', WHERE WHAT IT READS IS OF BULK AT MOST 1048576: true; the input reads as it did. -/
def fnExactSumOfUptoRow : OpenClaim := { program := "ytkajebhagkbcaab", sum := "95dd812a04aef1fe1dfc82345bcaf7c41ebae04f778a8a4fe6897c3d964e6a3a", func := "loop.example/g01141/laws.FnExactSumOf", spec := "fnExactSumOf", plainKeys := false, apart := false, narrowed := true }
def FnExactSumOfUptoSaid : Prop := fnExactSumOfUptoRow.holds Try.pinned (OpenSpec.upto fnExactSumOfSpec)

/-- 'laws.FnExactGreatestSum', WHERE WHAT IT READS IS OF BULK AT MOST 1048576: true; the input reads as it did. -/
def fnExactGreatestSumUptoRow : OpenClaim := { program := "ytkajebhagkbcaab", sum := "95dd812a04aef1fe1dfc82345bcaf7c41ebae04f778a8a4fe6897c3d964e6a3a", func := "loop.example/g01141/laws.FnExactGreatestSum", spec := "fnExactGreatestSum", plainKeys := false, apart := false, narrowed := true }
def FnExactGreatestSumUptoSaid : Prop := fnExactGreatestSumUptoRow.holds Try.pinned (OpenSpec.upto fnExactGreatestSumSpec)

/-- 'laws.FnExactFirstSum', WHERE WHAT IT READS IS OF BULK AT MOST 1048576: true; the input reads as it did. -/
def fnExactFirstSumUptoRow : OpenClaim := { program := "ytkajebhagkbcaab", sum := "95dd812a04aef1fe1dfc82345bcaf7c41ebae04f778a8a4fe6897c3d964e6a3a", func := "loop.example/g01141/laws.FnExactFirstSum", spec := "fnExactFirstSum", plainKeys := false, apart := false, narrowed := true }
def FnExactFirstSumUptoSaid : Prop := fnExactFirstSumUptoRow.holds Try.pinned (OpenSpec.upto fnExactFirstSumSpec)

/-- 'laws.FnExactGameFunctional', WHERE WHAT IT READS IS OF BULK AT MOST 1048576: true; the input reads as it did. -/
def fnExactGameFunctionalUptoRow : OpenClaim := { program := "ytkajebhagkbcaab", sum := "95dd812a04aef1fe1dfc82345bcaf7c41ebae04f778a8a4fe6897c3d964e6a3a", func := "loop.example/g01141/laws.FnExactGameFunctional", spec := "fnExactGameFunctional", unfollowed := true, recurses := true, plainKeys := false, apart := false, narrowed := true }
def FnExactGameFunctionalUptoSaid : Prop := fnExactGameFunctionalUptoRow.holds Try.pinned (OpenSpec.upto fnExactGameFunctionalSpec)

/-- 'laws.FnExactBoxScore', WHERE WHAT IT READS IS OF BULK AT MOST 1048576: true; the input reads as it did. -/
def fnExactBoxScoreUptoRow : OpenClaim := { program := "ytkajebhagkbcaab", sum := "95dd812a04aef1fe1dfc82345bcaf7c41ebae04f778a8a4fe6897c3d964e6a3a", func := "loop.example/g01141/laws.FnExactBoxScore", spec := "fnExactBoxScore", unfollowed := true, recurses := true, plainKeys := false, apart := false, narrowed := true }
def FnExactBoxScoreUptoSaid : Prop := fnExactBoxScoreUptoRow.holds Try.pinned (OpenSpec.upto fnExactBoxScoreSpec)

/-- 'laws.FnExactSignGame', WHERE WHAT IT READS IS OF BULK AT MOST 1048576: true; the input reads as it did. -/
def fnExactSignGameUptoRow : OpenClaim := { program := "ytkajebhagkbcaab", sum := "95dd812a04aef1fe1dfc82345bcaf7c41ebae04f778a8a4fe6897c3d964e6a3a", func := "loop.example/g01141/laws.FnExactSignGame", spec := "fnExactSignGame", unfollowed := true, recurses := true, plainKeys := false, apart := false, narrowed := true }
def FnExactSignGameUptoSaid : Prop := fnExactSignGameUptoRow.holds Try.pinned (OpenSpec.upto fnExactSignGameSpec)

/-- 'laws.FnExactFlipGame', WHERE WHAT IT READS IS OF BULK AT MOST 1048576: true; the input reads as it did. -/
def fnExactFlipGameUptoRow : OpenClaim := { program := "ytkajebhagkbcaab", sum := "95dd812a04aef1fe1dfc82345bcaf7c41ebae04f778a8a4fe6897c3d964e6a3a", func := "loop.example/g01141/laws.FnExactFlipGame", spec := "fnExactFlipGame", unfollowed := true, recurses := true, plainKeys := false, apart := false, narrowed := true }
def FnExactFlipGameUptoSaid : Prop := fnExactFlipGameUptoRow.holds Try.pinned (OpenSpec.upto fnExactFlipGameSpec)

end Rows
end Go.Proofs.Ytkajebhagkbcaab
