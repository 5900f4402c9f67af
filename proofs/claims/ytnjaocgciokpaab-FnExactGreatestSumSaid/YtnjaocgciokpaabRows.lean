/-
  No cell of these rows narrows 'for every input' (looked for: loops, veiled, ifaces, maps, wideKeys, modest, calm, conditions, laid).
  DERIVED. THE GIVEN ROWS OF THIS SEAT. 12 by the template 'for every input the law returns true; each argument reads behind the call as it read before'; 0 by the template 'total and deterministic' (their statements: YtnjaocgciokpaabTotals.lean).
  GIVEN WITH THE SEED: the statements are not yours to turn. If you find one false, say at which input.
  Laid BY PROGRAM, IN A SANDBOX (cutbox-rows.mjs): the forced cells as the released guide's own fill.sh prints them over the translation b2d8e83324319cea… (all of the seat's roots in one cut). By AI agents, Wed Nov 11 2026. No macro, syntax, notation, axiom, sorry.
-/
import Derived.Test.YtnjaocgciokpaabChecked
import GoSem.Claim
import GoSem.ClaimJoined
import GoSem.ClaimMapViews
import Derived.JoinedTies
import Derived.KernelRfl
namespace Go.Proofs.Ytnjaocgciokpaab
/- THE CELL 'sum', in the pinned program and in every row, IS THE sha256 OF THE DUMP (.gsa) THAT YtnjaocgciokpaabProg.lean LOADS. Nothing in Lean hashes anything: it is a label: what it is worth is what the hold of that sum in a sandbox is worth. -/
noncomputable def Try.pinned : Pinned := { name := "ytnjaocgciokpaab", sum := "b2d8e83324319cead0566768c80fd1eb1a83fc31e932bb9053c9023783c74c4f", checked := Try.checked }
namespace Rows
def none {H : Type} : Left H := { results := [], args := [] }

/-- 'laws.FnExactChainLeast': WHATEVER THE INPUT: true; the input reads as it did. -/
def fnExactChainLeastSpec : ChangeSpec := { name := "fnExactChainLeast", fn := fun _ => fun
  | [d] => { results := [.lit (.bool true)], args := [d] }
  | _ => none }
def fnExactChainLeastRow : OpenClaim := { program := "ytnjaocgciokpaab", sum := "b2d8e83324319cead0566768c80fd1eb1a83fc31e932bb9053c9023783c74c4f", func := "loop.example/g01141/laws.FnExactChainLeast", spec := "fnExactChainLeast", recurses := true, plainKeys := false, apart := false }
def FnExactChainLeastSaid : Prop := fnExactChainLeastRow.holds Try.pinned (OpenSpec.ofChange fnExactChainLeastSpec)

/-- ITS FALSE NEIGHBOUR: 'it returns false'. Refute it at one input. -/
def fnExactChainLeastWrong : ChangeSpec := { name := "fnExactChainLeast", fn := fun _ => fun
  | [d] => { results := [.lit (.bool false)], args := [d] }
  | _ => none }
def FnExactChainLeastWrongFalsely : Prop := fnExactChainLeastRow.holds Try.pinned (OpenSpec.ofChange fnExactChainLeastWrong)

/-- 'laws.FnExactSumFunctional': WHATEVER THE INPUT: true; the input reads as it did. -/
def fnExactSumFunctionalSpec : ChangeSpec := { name := "fnExactSumFunctional", fn := fun _ => fun
  | [d1, d2, d3, d4, d5] => { results := [.lit (.bool true)], args := [d1, d2, d3, d4, d5] }
  | _ => none }
def fnExactSumFunctionalRow : OpenClaim := { program := "ytnjaocgciokpaab", sum := "b2d8e83324319cead0566768c80fd1eb1a83fc31e932bb9053c9023783c74c4f", func := "loop.example/g01141/laws.FnExactSumFunctional", spec := "fnExactSumFunctional", plainKeys := false, apart := false }
def FnExactSumFunctionalSaid : Prop := fnExactSumFunctionalRow.holds Try.pinned (OpenSpec.ofChange fnExactSumFunctionalSpec)

/-- ITS FALSE NEIGHBOUR: 'it returns false'. Refute it at one input. -/
def fnExactSumFunctionalWrong : ChangeSpec := { name := "fnExactSumFunctional", fn := fun _ => fun
  | [d1, d2, d3, d4, d5] => { results := [.lit (.bool false)], args := [d1, d2, d3, d4, d5] }
  | _ => none }
def FnExactSumFunctionalWrongFalsely : Prop := fnExactSumFunctionalRow.holds Try.pinned (OpenSpec.ofChange fnExactSumFunctionalWrong)

/-- 'laws.FnExactSumOf': WHATEVER THE INPUT: true; the input reads as it did. -/
def fnExactSumOfSpec : ChangeSpec := { name := "fnExactSumOf", fn := fun _ => fun
  | [d1, d2, d3, d4] => { results := [.lit (.bool true)], args := [d1, d2, d3, d4] }
  | _ => none }
def fnExactSumOfRow : OpenClaim := { program := "ytnjaocgciokpaab", sum := "b2d8e83324319cead0566768c80fd1eb1a83fc31e932bb9053c9023783c74c4f", func := "loop.example/g01141/laws.FnExactSumOf", spec := "fnExactSumOf", plainKeys := false, apart := false }
def FnExactSumOfSaid : Prop := fnExactSumOfRow.holds Try.pinned (OpenSpec.ofChange fnExactSumOfSpec)

/-- ITS FALSE NEIGHBOUR: 'it returns false'. Refute it at one input. -/
def fnExactSumOfWrong : ChangeSpec := { name := "fnExactSumOf", fn := fun _ => fun
  | [d1, d2, d3, d4] => { results := [.lit (.bool false)], args := [d1, d2, d3, d4] }
  | _ => none }
def FnExactSumOfWrongFalsely : Prop := fnExactSumOfRow.holds Try.pinned (OpenSpec.ofChange fnExactSumOfWrong)

/-- 'laws.FnExactGreatestSum': WHATEVER THE INPUT: true; the input reads as it did. -/
def fnExactGreatestSumSpec : ChangeSpec := { name := "fnExactGreatestSum", fn := fun _ => fun
  | [d] => { results := [.lit (.bool true)], args := [d] }
  | _ => none }
def fnExactGreatestSumRow : OpenClaim := { program := "ytnjaocgciokpaab", sum := "b2d8e83324319cead0566768c80fd1eb1a83fc31e932bb9053c9023783c74c4f", func := "loop.example/g01141/laws.FnExactGreatestSum", spec := "fnExactGreatestSum", plainKeys := false, apart := false }
def FnExactGreatestSumSaid : Prop := fnExactGreatestSumRow.holds Try.pinned (OpenSpec.ofChange fnExactGreatestSumSpec)

/-- ITS FALSE NEIGHBOUR: 'it returns false'. Refute it at one input. -/
def fnExactGreatestSumWrong : ChangeSpec := { name := "fnExactGreatestSum", fn := fun _ => fun
  | [d] => { results := [.lit (.bool false)], args := [d] }
  | _ => none }
def FnExactGreatestSumWrongFalsely : Prop := fnExactGreatestSumRow.holds Try.pinned (OpenSpec.ofChange fnExactGreatestSumWrong)

/-- 'laws.FnExactFirstSum': WHATEVER THE INPUT: true; the input reads as it did. -/
def fnExactFirstSumSpec : ChangeSpec := { name := "fnExactFirstSum", fn := fun _ => fun
  | [d] => { results := [.lit (.bool true)], args := [d] }
  | _ => none }
def fnExactFirstSumRow : OpenClaim := { program := "ytnjaocgciokpaab", sum := "b2d8e83324319cead0566768c80fd1eb1a83fc31e932bb9053c9023783c74c4f", func := "loop.example/g01141/laws.FnExactFirstSum", spec := "fnExactFirstSum", plainKeys := false, apart := false }
def FnExactFirstSumSaid : Prop := fnExactFirstSumRow.holds Try.pinned (OpenSpec.ofChange fnExactFirstSumSpec)

/-- ITS FALSE NEIGHBOUR: 'it returns false'. Refute it at one input. -/
def fnExactFirstSumWrong : ChangeSpec := { name := "fnExactFirstSum", fn := fun _ => fun
  | [d] => { results := [.lit (.bool false)], args := [d] }
  | _ => none }
def FnExactFirstSumWrongFalsely : Prop := fnExactFirstSumRow.holds Try.pinned (OpenSpec.ofChange fnExactFirstSumWrong)

/-- 'laws.FnExactTalkValue': WHATEVER THE INPUT: true; the input reads as it did. -/
def fnExactTalkValueSpec : ChangeSpec := { name := "fnExactTalkValue", fn := fun _ => fun
  | [d] => { results := [.lit (.bool true)], args := [d] }
  | _ => none }
def fnExactTalkValueRow : OpenClaim := { program := "ytnjaocgciokpaab", sum := "b2d8e83324319cead0566768c80fd1eb1a83fc31e932bb9053c9023783c74c4f", func := "loop.example/g01141/laws.FnExactTalkValue", spec := "fnExactTalkValue", unfollowed := true, recurses := true, plainKeys := false, apart := false }
def FnExactTalkValueSaid : Prop := fnExactTalkValueRow.holds Try.pinned (OpenSpec.ofChange fnExactTalkValueSpec)

/-- ITS FALSE NEIGHBOUR: 'it returns false'. Refute it at one input. -/
def fnExactTalkValueWrong : ChangeSpec := { name := "fnExactTalkValue", fn := fun _ => fun
  | [d] => { results := [.lit (.bool false)], args := [d] }
  | _ => none }
def FnExactTalkValueWrongFalsely : Prop := fnExactTalkValueRow.holds Try.pinned (OpenSpec.ofChange fnExactTalkValueWrong)

/-- 'laws.FnExactCoverNumber': WHATEVER THE INPUT: true; the input reads as it did. -/
def fnExactCoverNumberSpec : ChangeSpec := { name := "fnExactCoverNumber", fn := fun _ => fun
  | [d1, d2] => { results := [.lit (.bool true)], args := [d1, d2] }
  | _ => none }
def fnExactCoverNumberRow : OpenClaim := { program := "ytnjaocgciokpaab", sum := "b2d8e83324319cead0566768c80fd1eb1a83fc31e932bb9053c9023783c74c4f", func := "loop.example/g01141/laws.FnExactCoverNumber", spec := "fnExactCoverNumber", recurses := true, plainKeys := false, apart := false }
def FnExactCoverNumberSaid : Prop := fnExactCoverNumberRow.holds Try.pinned (OpenSpec.ofChange fnExactCoverNumberSpec)

/-- ITS FALSE NEIGHBOUR: 'it returns false'. Refute it at one input. -/
def fnExactCoverNumberWrong : ChangeSpec := { name := "fnExactCoverNumber", fn := fun _ => fun
  | [d1, d2] => { results := [.lit (.bool false)], args := [d1, d2] }
  | _ => none }
def FnExactCoverNumberWrongFalsely : Prop := fnExactCoverNumberRow.holds Try.pinned (OpenSpec.ofChange fnExactCoverNumberWrong)

/-- 'laws.FnExactNeedOf': WHATEVER THE INPUT: true; the input reads as it did. -/
def fnExactNeedOfSpec : ChangeSpec := { name := "fnExactNeedOf", fn := fun _ => fun
  | [d] => { results := [.lit (.bool true)], args := [d] }
  | _ => none }
def fnExactNeedOfRow : OpenClaim := { program := "ytnjaocgciokpaab", sum := "b2d8e83324319cead0566768c80fd1eb1a83fc31e932bb9053c9023783c74c4f", func := "loop.example/g01141/laws.FnExactNeedOf", spec := "fnExactNeedOf", unfollowed := true, recurses := true, plainKeys := false, apart := false }
def FnExactNeedOfSaid : Prop := fnExactNeedOfRow.holds Try.pinned (OpenSpec.ofChange fnExactNeedOfSpec)

/-- ITS FALSE NEIGHBOUR: 'it returns false'. Refute it at one input. -/
def fnExactNeedOfWrong : ChangeSpec := { name := "fnExactNeedOf", fn := fun _ => fun
  | [d] => { results := [.lit (.bool false)], args := [d] }
  | _ => none }
def FnExactNeedOfWrongFalsely : Prop := fnExactNeedOfRow.holds Try.pinned (OpenSpec.ofChange fnExactNeedOfWrong)

/-- 'laws.FnExactFirstSplit': WHATEVER THE INPUT: true; the input reads as it did. -/
def fnExactFirstSplitSpec : ChangeSpec := { name := "fnExactFirstSplit", fn := fun _ => fun
  | [d] => { results := [.lit (.bool true)], args := [d] }
  | _ => none }
def fnExactFirstSplitRow : OpenClaim := { program := "ytnjaocgciokpaab", sum := "b2d8e83324319cead0566768c80fd1eb1a83fc31e932bb9053c9023783c74c4f", func := "loop.example/g01141/laws.FnExactFirstSplit", spec := "fnExactFirstSplit", unfollowed := true, recurses := true, plainKeys := false, apart := false }
def FnExactFirstSplitSaid : Prop := fnExactFirstSplitRow.holds Try.pinned (OpenSpec.ofChange fnExactFirstSplitSpec)

/-- ITS FALSE NEIGHBOUR: 'it returns false'. Refute it at one input. -/
def fnExactFirstSplitWrong : ChangeSpec := { name := "fnExactFirstSplit", fn := fun _ => fun
  | [d] => { results := [.lit (.bool false)], args := [d] }
  | _ => none }
def FnExactFirstSplitWrongFalsely : Prop := fnExactFirstSplitRow.holds Try.pinned (OpenSpec.ofChange fnExactFirstSplitWrong)

/-- 'laws.FnExactBestTalk': WHATEVER THE INPUT: true; the input reads as it did. -/
def fnExactBestTalkSpec : ChangeSpec := { name := "fnExactBestTalk", fn := fun _ => fun
  | [d] => { results := [.lit (.bool true)], args := [d] }
  | _ => none }
def fnExactBestTalkRow : OpenClaim := { program := "ytnjaocgciokpaab", sum := "b2d8e83324319cead0566768c80fd1eb1a83fc31e932bb9053c9023783c74c4f", func := "loop.example/g01141/laws.FnExactBestTalk", spec := "fnExactBestTalk", unfollowed := true, recurses := true, plainKeys := false, apart := false }
def FnExactBestTalkSaid : Prop := fnExactBestTalkRow.holds Try.pinned (OpenSpec.ofChange fnExactBestTalkSpec)

/-- ITS FALSE NEIGHBOUR: 'it returns false'. Refute it at one input. -/
def fnExactBestTalkWrong : ChangeSpec := { name := "fnExactBestTalk", fn := fun _ => fun
  | [d] => { results := [.lit (.bool false)], args := [d] }
  | _ => none }
def FnExactBestTalkWrongFalsely : Prop := fnExactBestTalkRow.holds Try.pinned (OpenSpec.ofChange fnExactBestTalkWrong)

/-- 'laws.FnExactJoinScenes': WHATEVER THE INPUT: true; the input reads as it did. -/
def fnExactJoinScenesSpec : ChangeSpec := { name := "fnExactJoinScenes", fn := fun _ => fun
  | [d1, d2] => { results := [.lit (.bool true)], args := [d1, d2] }
  | _ => none }
def fnExactJoinScenesRow : OpenClaim := { program := "ytnjaocgciokpaab", sum := "b2d8e83324319cead0566768c80fd1eb1a83fc31e932bb9053c9023783c74c4f", func := "loop.example/g01141/laws.FnExactJoinScenes", spec := "fnExactJoinScenes", plainKeys := false, apart := false }
def FnExactJoinScenesSaid : Prop := fnExactJoinScenesRow.holds Try.pinned (OpenSpec.ofChange fnExactJoinScenesSpec)

/-- ITS FALSE NEIGHBOUR: 'it returns false'. Refute it at one input. -/
def fnExactJoinScenesWrong : ChangeSpec := { name := "fnExactJoinScenes", fn := fun _ => fun
  | [d1, d2] => { results := [.lit (.bool false)], args := [d1, d2] }
  | _ => none }
def FnExactJoinScenesWrongFalsely : Prop := fnExactJoinScenesRow.holds Try.pinned (OpenSpec.ofChange fnExactJoinScenesWrong)

/-- 'laws.FnExactBothValue': WHATEVER THE INPUT: true; the input reads as it did. -/
def fnExactBothValueSpec : ChangeSpec := { name := "fnExactBothValue", fn := fun _ => fun
  | [d1, d2] => { results := [.lit (.bool true)], args := [d1, d2] }
  | _ => none }
def fnExactBothValueRow : OpenClaim := { program := "ytnjaocgciokpaab", sum := "b2d8e83324319cead0566768c80fd1eb1a83fc31e932bb9053c9023783c74c4f", func := "loop.example/g01141/laws.FnExactBothValue", spec := "fnExactBothValue", plainKeys := false, apart := false }
def FnExactBothValueSaid : Prop := fnExactBothValueRow.holds Try.pinned (OpenSpec.ofChange fnExactBothValueSpec)

/-- ITS FALSE NEIGHBOUR: 'it returns false'. Refute it at one input. -/
def fnExactBothValueWrong : ChangeSpec := { name := "fnExactBothValue", fn := fun _ => fun
  | [d1, d2] => { results := [.lit (.bool false)], args := [d1, d2] }
  | _ => none }
def FnExactBothValueWrongFalsely : Prop := fnExactBothValueRow.holds Try.pinned (OpenSpec.ofChange fnExactBothValueWrong)

/- THE SECOND FORM. 'bulk': how many values and letters a reading holds, each counted each time it is reached (what is shared counts as often as it is met; a slice's spare places count too). A statement '..UptoSaid' is the law's where the arguments, and the package variables that the reading takes, are together of bulk at most 1048576: NARROWER than '..Said'. Prove '..Said' where nothing that the law and all that it calls make is longer than what came in: it says more and counts as full. Else prove '..UptoSaid'. A law counts once. -/
mutual
def uptoBulk {H : Type} : DataW H → Nat
  | .lit (.string bytes) => bytes.length + 1
  | .lit _ => 1
  | .nil => 1
  | .ptr d => uptoBulk d + 1
  | .slice elems spare => uptoBulkAll elems + uptoBulkAll spare + 1
  | .agg parts => uptoBulkAll parts + 1
  | .iface _ d => uptoBulk d + 1
  | .map entries => uptoBulkEntries entries + 1
  | .held _ => 1
def uptoBulkAll {H : Type} : List (DataW H) → Nat
  | [] => 0
  | d :: r => uptoBulk d + uptoBulkAll r
def uptoBulkEntries {H : Type} : List (Lit × DataW H) → Nat
  | [] => 0
  | x :: r => uptoBulkEntry x + uptoBulkEntries r
def uptoBulkEntry {H : Type} : Lit × DataW H → Nat
  | (.string bytes, d) => bytes.length + uptoBulk d + 1
  | (_, d) => uptoBulk d + 1
 end
def uptoSmall : (H : Type) → List (DataW H) → Bool := fun _ ds => decide (uptoBulkAll ds ≤ 1048576)
def OpenSpec.upto (s : _root_.Go.ChangeSpec) : _root_.Go.OpenSpec := { _root_.Go.OpenSpec.ofChange s with cond := some uptoSmall }

/-- 'laws.FnExactChainLeast', WHERE WHAT IT READS IS OF BULK AT MOST 1048576: true; the input reads as it did. -/
def fnExactChainLeastUptoRow : OpenClaim := { program := "ytnjaocgciokpaab", sum := "b2d8e83324319cead0566768c80fd1eb1a83fc31e932bb9053c9023783c74c4f", func := "loop.example/g01141/laws.FnExactChainLeast", spec := "fnExactChainLeast", recurses := true, plainKeys := false, apart := false, narrowed := true }
def FnExactChainLeastUptoSaid : Prop := fnExactChainLeastUptoRow.holds Try.pinned (OpenSpec.upto fnExactChainLeastSpec)

/-- 'laws.FnExactSumFunctional', WHERE WHAT IT READS IS OF BULK AT MOST 1048576: true; the input reads as it did. -/
def fnExactSumFunctionalUptoRow : OpenClaim := { program := "ytnjaocgciokpaab", sum := "b2d8e83324319cead0566768c80fd1eb1a83fc31e932bb9053c9023783c74c4f", func := "loop.example/g01141/laws.FnExactSumFunctional", spec := "fnExactSumFunctional", plainKeys := false, apart := false, narrowed := true }
def FnExactSumFunctionalUptoSaid : Prop := fnExactSumFunctionalUptoRow.holds Try.pinned (OpenSpec.upto fnExactSumFunctionalSpec)

/-- 'laws.FnExactSumOf', WHERE WHAT IT READS IS OF BULK AT MOST 1048576: true; the input reads as it did. -/
def fnExactSumOfUptoRow : OpenClaim := { program := "ytnjaocgciokpaab", sum := "b2d8e83324319cead0566768c80fd1eb1a83fc31e932bb9053c9023783c74c4f", func := "loop.example/g01141/laws.FnExactSumOf", spec := "fnExactSumOf", plainKeys := false, apart := false, narrowed := true }
def FnExactSumOfUptoSaid : Prop := fnExactSumOfUptoRow.holds Try.pinned (OpenSpec.upto fnExactSumOfSpec)

/-- 'laws.FnExactGreatestSum', WHERE WHAT IT READS IS OF BULK AT MOST 1048576: true; the input reads as it did. -/
def fnExactGreatestSumUptoRow : OpenClaim := { program := "ytnjaocgciokpaab", sum := "b2d8e83324319cead0566768c80fd1eb1a83fc31e932bb9053c9023783c74c4f", func := "loop.example/g01141/laws.FnExactGreatestSum", spec := "fnExactGreatestSum", plainKeys := false, apart := false, narrowed := true }
def FnExactGreatestSumUptoSaid : Prop := fnExactGreatestSumUptoRow.holds Try.pinned (OpenSpec.upto fnExactGreatestSumSpec)

/-- 'laws.FnExactFirstSum', WHERE WHAT IT READS IS OF BULK AT MOST 1048576: true; the input reads as it did. -/
def fnExactFirstSumUptoRow : OpenClaim := { program := "ytnjaocgciokpaab", sum := "b2d8e83324319cead0566768c80fd1eb1a83fc31e932bb9053c9023783c74c4f", func := "loop.example/g01141/laws.FnExactFirstSum", spec := "fnExactFirstSum", plainKeys := false, apart := false, narrowed := true }
def FnExactFirstSumUptoSaid : Prop := fnExactFirstSumUptoRow.holds Try.pinned (OpenSpec.upto fnExactFirstSumSpec)

/-- 'laws.FnExactTalkValue', WHERE WHAT IT READS IS OF BULK AT MOST 1048576: true; the input reads as it did. -/
def fnExactTalkValueUptoRow : OpenClaim := { program := "ytnjaocgciokpaab", sum := "b2d8e83324319cead0566768c80fd1eb1a83fc31e932bb9053c9023783c74c4f", func := "loop.example/g01141/laws.FnExactTalkValue", spec := "fnExactTalkValue", unfollowed := true, recurses := true, plainKeys := false, apart := false, narrowed := true }
def FnExactTalkValueUptoSaid : Prop := fnExactTalkValueUptoRow.holds Try.pinned (OpenSpec.upto fnExactTalkValueSpec)

/-- 'laws.FnExactCoverNumber', WHERE WHAT IT READS IS OF BULK AT MOST 1048576: true; the input reads as it did. -/
def fnExactCoverNumberUptoRow : OpenClaim := { program := "ytnjaocgciokpaab", sum := "b2d8e83324319cead0566768c80fd1eb1a83fc31e932bb9053c9023783c74c4f", func := "loop.example/g01141/laws.FnExactCoverNumber", spec := "fnExactCoverNumber", recurses := true, plainKeys := false, apart := false, narrowed := true }
def FnExactCoverNumberUptoSaid : Prop := fnExactCoverNumberUptoRow.holds Try.pinned (OpenSpec.upto fnExactCoverNumberSpec)

/-- 'laws.FnExactNeedOf', WHERE WHAT IT READS IS OF BULK AT MOST 1048576: true; the input reads as it did. -/
def fnExactNeedOfUptoRow : OpenClaim := { program := "ytnjaocgciokpaab", sum := "b2d8e83324319cead0566768c80fd1eb1a83fc31e932bb9053c9023783c74c4f", func := "loop.example/g01141/laws.FnExactNeedOf", spec := "fnExactNeedOf", unfollowed := true, recurses := true, plainKeys := false, apart := false, narrowed := true }
def FnExactNeedOfUptoSaid : Prop := fnExactNeedOfUptoRow.holds Try.pinned (OpenSpec.upto fnExactNeedOfSpec)

/-- 'laws.FnExactFirstSplit', WHERE WHAT IT READS IS OF BULK AT MOST 1048576: true; the input reads as it did. -/
def fnExactFirstSplitUptoRow : OpenClaim := { program := "ytnjaocgciokpaab", sum := "b2d8e83324319cead0566768c80fd1eb1a83fc31e932bb9053c9023783c74c4f", func := "loop.example/g01141/laws.FnExactFirstSplit", spec := "fnExactFirstSplit", unfollowed := true, recurses := true, plainKeys := false, apart := false, narrowed := true }
def FnExactFirstSplitUptoSaid : Prop := fnExactFirstSplitUptoRow.holds Try.pinned (OpenSpec.upto fnExactFirstSplitSpec)

/-- 'laws.FnExactBestTalk', WHERE WHAT IT READS IS OF BULK AT MOST 1048576: true; the input reads as it did. -/
def fnExactBestTalkUptoRow : OpenClaim := { program := "ytnjaocgciokpaab", sum := "b2d8e83324319cead0566768c80fd1eb1a83fc31e932bb9053c9023783c74c4f", func := "loop.example/g01141/laws.FnExactBestTalk", spec := "fnExactBestTalk", unfollowed := true, recurses := true, plainKeys := false, apart := false, narrowed := true }
def FnExactBestTalkUptoSaid : Prop := fnExactBestTalkUptoRow.holds Try.pinned (OpenSpec.upto fnExactBestTalkSpec)

/-- 'laws.FnExactJoinScenes', WHERE WHAT IT READS IS OF BULK AT MOST 1048576: true; the input reads as it did. -/
def fnExactJoinScenesUptoRow : OpenClaim := { program := "ytnjaocgciokpaab", sum := "b2d8e83324319cead0566768c80fd1eb1a83fc31e932bb9053c9023783c74c4f", func := "loop.example/g01141/laws.FnExactJoinScenes", spec := "fnExactJoinScenes", plainKeys := false, apart := false, narrowed := true }
def FnExactJoinScenesUptoSaid : Prop := fnExactJoinScenesUptoRow.holds Try.pinned (OpenSpec.upto fnExactJoinScenesSpec)

/-- 'laws.FnExactBothValue', WHERE WHAT IT READS IS OF BULK AT MOST 1048576: true; the input reads as it did. -/
def fnExactBothValueUptoRow : OpenClaim := { program := "ytnjaocgciokpaab", sum := "b2d8e83324319cead0566768c80fd1eb1a83fc31e932bb9053c9023783c74c4f", func := "loop.example/g01141/laws.FnExactBothValue", spec := "fnExactBothValue", plainKeys := false, apart := false, narrowed := true }
def FnExactBothValueUptoSaid : Prop := fnExactBothValueUptoRow.holds Try.pinned (OpenSpec.upto fnExactBothValueSpec)

end Rows
end Go.Proofs.Ytnjaocgciokpaab
