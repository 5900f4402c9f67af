/-
  No cell of these rows narrows 'for every input' (looked for: loops, veiled, ifaces, maps, wideKeys, modest, calm, conditions, laid).
  DERIVED. THE GIVEN ROWS OF THIS SEAT. 12 by the template 'for every input the law returns true; each argument reads behind the call as it read before'; 0 by the template 'total and deterministic' (their statements: YtneonebgneonkaaTotals.lean).
  GIVEN WITH THE SEED: the statements are not yours to turn. If you find one false, say at which input.
  Laid BY PROGRAM, IN A SANDBOX (cutbox-rows.mjs): the forced cells as the released guide's own fill.sh prints them over the translation bf1b3ebc5b54dd6e… (all of the seat's roots in one cut). By AI agents, Wed Nov 11 2026. No macro, syntax, notation, axiom, sorry.
-/
import Derived.Test.YtneonebgneonkaaChecked
import GoSem.Claim
import GoSem.ClaimJoined
import GoSem.ClaimMapViews
import Derived.JoinedTies
import Derived.KernelRfl
namespace Go.Proofs.Ytneonebgneonkaa
/- THE CELL 'sum', in the pinned program and in every row, IS THE sha256 OF THE DUMP (.gsa) THAT YtneonebgneonkaaProg.lean LOADS. Nothing in Lean hashes anything: it is a label: what it is worth is what the hold of that sum in a sandbox is worth. -/
noncomputable def Try.pinned : Pinned := { name := "ytneonebgneonkaa", sum := "bf1b3ebc5b54dd6e99db4198eafb8e4abe25f15a52be79ecedc9a0529a177f00", checked := Try.checked }
namespace Rows
def none {H : Type} : Left H := { results := [], args := [] }

/-- 'laws.FnExactIsRule': WHATEVER THE INPUT: true; the input reads as it did. -/
def fnExactIsRuleSpec : ChangeSpec := { name := "fnExactIsRule", fn := fun _ => fun
  | [d] => { results := [.lit (.bool true)], args := [d] }
  | _ => none }
def fnExactIsRuleRow : OpenClaim := { program := "ytneonebgneonkaa", sum := "bf1b3ebc5b54dd6e99db4198eafb8e4abe25f15a52be79ecedc9a0529a177f00", func := "loop.example/g01141/laws.FnExactIsRule", spec := "fnExactIsRule", apart := false }
def FnExactIsRuleSaid : Prop := fnExactIsRuleRow.holds Try.pinned (OpenSpec.ofChange fnExactIsRuleSpec)

/-- ITS FALSE NEIGHBOUR: 'it returns false'. Refute it at one input. -/
def fnExactIsRuleWrong : ChangeSpec := { name := "fnExactIsRule", fn := fun _ => fun
  | [d] => { results := [.lit (.bool false)], args := [d] }
  | _ => none }
def FnExactIsRuleWrongFalsely : Prop := fnExactIsRuleRow.holds Try.pinned (OpenSpec.ofChange fnExactIsRuleWrong)

/-- 'laws.FnExactNamedRule': WHATEVER THE INPUT: true; the input reads as it did. -/
def fnExactNamedRuleSpec : ChangeSpec := { name := "fnExactNamedRule", fn := fun _ => fun
  | [d] => { results := [.lit (.bool true)], args := [d] }
  | _ => none }
def fnExactNamedRuleRow : OpenClaim := { program := "ytneonebgneonkaa", sum := "bf1b3ebc5b54dd6e99db4198eafb8e4abe25f15a52be79ecedc9a0529a177f00", func := "loop.example/g01141/laws.FnExactNamedRule", spec := "fnExactNamedRule", apart := false }
def FnExactNamedRuleSaid : Prop := fnExactNamedRuleRow.holds Try.pinned (OpenSpec.ofChange fnExactNamedRuleSpec)

/-- ITS FALSE NEIGHBOUR: 'it returns false'. Refute it at one input. -/
def fnExactNamedRuleWrong : ChangeSpec := { name := "fnExactNamedRule", fn := fun _ => fun
  | [d] => { results := [.lit (.bool false)], args := [d] }
  | _ => none }
def FnExactNamedRuleWrongFalsely : Prop := fnExactNamedRuleRow.holds Try.pinned (OpenSpec.ofChange fnExactNamedRuleWrong)

/-- 'laws.FnExactSumRuleBy': WHATEVER THE INPUT: true; the input reads as it did. -/
def fnExactSumRuleBySpec : ChangeSpec := { name := "fnExactSumRuleBy", fn := fun _ => fun
  | [d] => { results := [.lit (.bool true)], args := [d] }
  | _ => none }
def fnExactSumRuleByRow : OpenClaim := { program := "ytneonebgneonkaa", sum := "bf1b3ebc5b54dd6e99db4198eafb8e4abe25f15a52be79ecedc9a0529a177f00", func := "loop.example/g01141/laws.FnExactSumRuleBy", spec := "fnExactSumRuleBy", apart := false }
def FnExactSumRuleBySaid : Prop := fnExactSumRuleByRow.holds Try.pinned (OpenSpec.ofChange fnExactSumRuleBySpec)

/-- ITS FALSE NEIGHBOUR: 'it returns false'. Refute it at one input. -/
def fnExactSumRuleByWrong : ChangeSpec := { name := "fnExactSumRuleBy", fn := fun _ => fun
  | [d] => { results := [.lit (.bool false)], args := [d] }
  | _ => none }
def FnExactSumRuleByWrongFalsely : Prop := fnExactSumRuleByRow.holds Try.pinned (OpenSpec.ofChange fnExactSumRuleByWrong)

/-- 'laws.FnExactFlipRule': WHATEVER THE INPUT: true; the input reads as it did. -/
def fnExactFlipRuleSpec : ChangeSpec := { name := "fnExactFlipRule", fn := fun _ => fun
  | [d] => { results := [.lit (.bool true)], args := [d] }
  | _ => none }
def fnExactFlipRuleRow : OpenClaim := { program := "ytneonebgneonkaa", sum := "bf1b3ebc5b54dd6e99db4198eafb8e4abe25f15a52be79ecedc9a0529a177f00", func := "loop.example/g01141/laws.FnExactFlipRule", spec := "fnExactFlipRule", apart := false }
def FnExactFlipRuleSaid : Prop := fnExactFlipRuleRow.holds Try.pinned (OpenSpec.ofChange fnExactFlipRuleSpec)

/-- ITS FALSE NEIGHBOUR: 'it returns false'. Refute it at one input. -/
def fnExactFlipRuleWrong : ChangeSpec := { name := "fnExactFlipRule", fn := fun _ => fun
  | [d] => { results := [.lit (.bool false)], args := [d] }
  | _ => none }
def FnExactFlipRuleWrongFalsely : Prop := fnExactFlipRuleRow.holds Try.pinned (OpenSpec.ofChange fnExactFlipRuleWrong)

/-- 'laws.FnExactPlayThrough': WHATEVER THE INPUT: true; the input reads as it did. -/
def fnExactPlayThroughSpec : ChangeSpec := { name := "fnExactPlayThrough", fn := fun _ => fun
  | [d1, d2, d3] => { results := [.lit (.bool true)], args := [d1, d2, d3] }
  | _ => none }
def fnExactPlayThroughRow : OpenClaim := { program := "ytneonebgneonkaa", sum := "bf1b3ebc5b54dd6e99db4198eafb8e4abe25f15a52be79ecedc9a0529a177f00", func := "loop.example/g01141/laws.FnExactPlayThrough", spec := "fnExactPlayThrough", apart := false }
def FnExactPlayThroughSaid : Prop := fnExactPlayThroughRow.holds Try.pinned (OpenSpec.ofChange fnExactPlayThroughSpec)

/-- ITS FALSE NEIGHBOUR: 'it returns false'. Refute it at one input. -/
def fnExactPlayThroughWrong : ChangeSpec := { name := "fnExactPlayThrough", fn := fun _ => fun
  | [d1, d2, d3] => { results := [.lit (.bool false)], args := [d1, d2, d3] }
  | _ => none }
def FnExactPlayThroughWrongFalsely : Prop := fnExactPlayThroughRow.holds Try.pinned (OpenSpec.ofChange fnExactPlayThroughWrong)

/-- 'laws.FnExactWireBoxes': WHATEVER THE INPUT: true; the input reads as it did. -/
def fnExactWireBoxesSpec : ChangeSpec := { name := "fnExactWireBoxes", fn := fun _ => fun
  | [d1, d2, d3, d4] => { results := [.lit (.bool true)], args := [d1, d2, d3, d4] }
  | _ => none }
def fnExactWireBoxesRow : OpenClaim := { program := "ytneonebgneonkaa", sum := "bf1b3ebc5b54dd6e99db4198eafb8e4abe25f15a52be79ecedc9a0529a177f00", func := "loop.example/g01141/laws.FnExactWireBoxes", spec := "fnExactWireBoxes", unfollowed := true, recurses := true, apart := false }
def FnExactWireBoxesSaid : Prop := fnExactWireBoxesRow.holds Try.pinned (OpenSpec.ofChange fnExactWireBoxesSpec)

/-- ITS FALSE NEIGHBOUR: 'it returns false'. Refute it at one input. -/
def fnExactWireBoxesWrong : ChangeSpec := { name := "fnExactWireBoxes", fn := fun _ => fun
  | [d1, d2, d3, d4] => { results := [.lit (.bool false)], args := [d1, d2, d3, d4] }
  | _ => none }
def FnExactWireBoxesWrongFalsely : Prop := fnExactWireBoxesRow.holds Try.pinned (OpenSpec.ofChange fnExactWireBoxesWrong)

/-- 'laws.FnExactSumBoxes': WHATEVER THE INPUT: true; the input reads as it did. -/
def fnExactSumBoxesSpec : ChangeSpec := { name := "fnExactSumBoxes", fn := fun _ => fun
  | [d1, d2] => { results := [.lit (.bool true)], args := [d1, d2] }
  | _ => none }
def fnExactSumBoxesRow : OpenClaim := { program := "ytneonebgneonkaa", sum := "bf1b3ebc5b54dd6e99db4198eafb8e4abe25f15a52be79ecedc9a0529a177f00", func := "loop.example/g01141/laws.FnExactSumBoxes", spec := "fnExactSumBoxes", unfollowed := true, recurses := true, apart := false }
def FnExactSumBoxesSaid : Prop := fnExactSumBoxesRow.holds Try.pinned (OpenSpec.ofChange fnExactSumBoxesSpec)

/-- ITS FALSE NEIGHBOUR: 'it returns false'. Refute it at one input. -/
def fnExactSumBoxesWrong : ChangeSpec := { name := "fnExactSumBoxes", fn := fun _ => fun
  | [d1, d2] => { results := [.lit (.bool false)], args := [d1, d2] }
  | _ => none }
def FnExactSumBoxesWrongFalsely : Prop := fnExactSumBoxesRow.holds Try.pinned (OpenSpec.ofChange fnExactSumBoxesWrong)

/-- 'laws.FnExactRepeatSum': WHATEVER THE INPUT: true; the input reads as it did. -/
def fnExactRepeatSumSpec : ChangeSpec := { name := "fnExactRepeatSum", fn := fun _ => fun
  | [d1, d2] => { results := [.lit (.bool true)], args := [d1, d2] }
  | _ => none }
def fnExactRepeatSumRow : OpenClaim := { program := "ytneonebgneonkaa", sum := "bf1b3ebc5b54dd6e99db4198eafb8e4abe25f15a52be79ecedc9a0529a177f00", func := "loop.example/g01141/laws.FnExactRepeatSum", spec := "fnExactRepeatSum", unfollowed := true, recurses := true, apart := false }
def FnExactRepeatSumSaid : Prop := fnExactRepeatSumRow.holds Try.pinned (OpenSpec.ofChange fnExactRepeatSumSpec)

/-- ITS FALSE NEIGHBOUR: 'it returns false'. Refute it at one input. -/
def fnExactRepeatSumWrong : ChangeSpec := { name := "fnExactRepeatSum", fn := fun _ => fun
  | [d1, d2] => { results := [.lit (.bool false)], args := [d1, d2] }
  | _ => none }
def FnExactRepeatSumWrongFalsely : Prop := fnExactRepeatSumRow.holds Try.pinned (OpenSpec.ofChange fnExactRepeatSumWrong)

/-- 'laws.FnExactBestAsks': WHATEVER THE INPUT: true; the input reads as it did. -/
def fnExactBestAsksSpec : ChangeSpec := { name := "fnExactBestAsks", fn := fun _ => fun
  | [d1, d2, d3] => { results := [.lit (.bool true)], args := [d1, d2, d3] }
  | _ => none }
def fnExactBestAsksRow : OpenClaim := { program := "ytneonebgneonkaa", sum := "bf1b3ebc5b54dd6e99db4198eafb8e4abe25f15a52be79ecedc9a0529a177f00", func := "loop.example/g01141/laws.FnExactBestAsks", spec := "fnExactBestAsks", unfollowed := true, recurses := true, apart := false }
def FnExactBestAsksSaid : Prop := fnExactBestAsksRow.holds Try.pinned (OpenSpec.ofChange fnExactBestAsksSpec)

/-- ITS FALSE NEIGHBOUR: 'it returns false'. Refute it at one input. -/
def fnExactBestAsksWrong : ChangeSpec := { name := "fnExactBestAsks", fn := fun _ => fun
  | [d1, d2, d3] => { results := [.lit (.bool false)], args := [d1, d2, d3] }
  | _ => none }
def FnExactBestAsksWrongFalsely : Prop := fnExactBestAsksRow.holds Try.pinned (OpenSpec.ofChange fnExactBestAsksWrong)

/-- 'laws.FnExactMixWirings': WHATEVER THE INPUT: true; the input reads as it did. -/
def fnExactMixWiringsSpec : ChangeSpec := { name := "fnExactMixWirings", fn := fun _ => fun
  | [d1, d2, d3, d4] => { results := [.lit (.bool true)], args := [d1, d2, d3, d4] }
  | _ => none }
def fnExactMixWiringsRow : OpenClaim := { program := "ytneonebgneonkaa", sum := "bf1b3ebc5b54dd6e99db4198eafb8e4abe25f15a52be79ecedc9a0529a177f00", func := "loop.example/g01141/laws.FnExactMixWirings", spec := "fnExactMixWirings", unfollowed := true, recurses := true, apart := false }
def FnExactMixWiringsSaid : Prop := fnExactMixWiringsRow.holds Try.pinned (OpenSpec.ofChange fnExactMixWiringsSpec)

/-- ITS FALSE NEIGHBOUR: 'it returns false'. Refute it at one input. -/
def fnExactMixWiringsWrong : ChangeSpec := { name := "fnExactMixWirings", fn := fun _ => fun
  | [d1, d2, d3, d4] => { results := [.lit (.bool false)], args := [d1, d2, d3, d4] }
  | _ => none }
def FnExactMixWiringsWrongFalsely : Prop := fnExactMixWiringsRow.holds Try.pinned (OpenSpec.ofChange fnExactMixWiringsWrong)

/-- 'laws.FnExactSameByNames': WHATEVER THE INPUT: true; the input reads as it did. -/
def fnExactSameByNamesSpec : ChangeSpec := { name := "fnExactSameByNames", fn := fun _ => fun
  | [d1, d2] => { results := [.lit (.bool true)], args := [d1, d2] }
  | _ => none }
def fnExactSameByNamesRow : OpenClaim := { program := "ytneonebgneonkaa", sum := "bf1b3ebc5b54dd6e99db4198eafb8e4abe25f15a52be79ecedc9a0529a177f00", func := "loop.example/g01141/laws.FnExactSameByNames", spec := "fnExactSameByNames", inPlace := ["slices.overlaps[int]"], unfollowed := true, recurses := true, apart := false }
def FnExactSameByNamesSaid : Prop := fnExactSameByNamesRow.holds Try.pinned (OpenSpec.ofChange fnExactSameByNamesSpec)

/-- ITS FALSE NEIGHBOUR: 'it returns false'. Refute it at one input. -/
def fnExactSameByNamesWrong : ChangeSpec := { name := "fnExactSameByNames", fn := fun _ => fun
  | [d1, d2] => { results := [.lit (.bool false)], args := [d1, d2] }
  | _ => none }
def FnExactSameByNamesWrongFalsely : Prop := fnExactSameByNamesRow.holds Try.pinned (OpenSpec.ofChange fnExactSameByNamesWrong)

/-- 'laws.FnExactJoinScenes': WHATEVER THE INPUT: true; the input reads as it did. -/
def fnExactJoinScenesSpec : ChangeSpec := { name := "fnExactJoinScenes", fn := fun _ => fun
  | [d1, d2] => { results := [.lit (.bool true)], args := [d1, d2] }
  | _ => none }
def fnExactJoinScenesRow : OpenClaim := { program := "ytneonebgneonkaa", sum := "bf1b3ebc5b54dd6e99db4198eafb8e4abe25f15a52be79ecedc9a0529a177f00", func := "loop.example/g01141/laws.FnExactJoinScenes", spec := "fnExactJoinScenes", apart := false }
def FnExactJoinScenesSaid : Prop := fnExactJoinScenesRow.holds Try.pinned (OpenSpec.ofChange fnExactJoinScenesSpec)

/-- ITS FALSE NEIGHBOUR: 'it returns false'. Refute it at one input. -/
def fnExactJoinScenesWrong : ChangeSpec := { name := "fnExactJoinScenes", fn := fun _ => fun
  | [d1, d2] => { results := [.lit (.bool false)], args := [d1, d2] }
  | _ => none }
def FnExactJoinScenesWrongFalsely : Prop := fnExactJoinScenesRow.holds Try.pinned (OpenSpec.ofChange fnExactJoinScenesWrong)

/- THE SECOND FORM. 'bulk': how many values and letters a reading holds, each counted each time it is reached (what is shared counts as often as it is met; a slice's spare places count too). A statement '..UptoSaid' is the law's where the arguments, and the package variables that the reading takes, are together of bulk at most 1048576: NARROWER than '..Said'. Prove '..Said' where nothing that the law and all that it calls make is longer than what came in: it says more and counts as full. Else prove '..UptoSaid'. A law counts once. -/
mutual
def uptoBulk {H : Type} : DataW H → Nat
  | .lit (.string bytes) => bytes.length + 1
  | .lit _ => 1
  | .nil => 1
  | .ptr d => uptoBulk d + 1
  | .slice elems spare => uptoBulkAll elems + uptoBulkAll spare + 1
  | .agg parts => uptoBulkAll parts + 1
  | .iface _ d => uptoBulk d + 1
  | .map entries => uptoBulkEntries entries + 1
  | .held _ => 1
def uptoBulkAll {H : Type} : List (DataW H) → Nat
  | [] => 0
  | d :: r => uptoBulk d + uptoBulkAll r
def uptoBulkEntries {H : Type} : List (Lit × DataW H) → Nat
  | [] => 0
  | x :: r => uptoBulkEntry x + uptoBulkEntries r
def uptoBulkEntry {H : Type} : Lit × DataW H → Nat
  | (.string bytes, d) => bytes.length + uptoBulk d + 1
  | (_, d) => uptoBulk d + 1
 end
def uptoSmall : (H : Type) → List (DataW H) → Bool := fun _ ds => decide (uptoBulkAll ds ≤ 1048576)
def OpenSpec.upto (s : _root_.Go.ChangeSpec) : _root_.Go.OpenSpec := { _root_.Go.OpenSpec.ofChange s with cond := some uptoSmall }

/-- 'laws.FnExactIsRule', WHERE WHAT IT READS IS OF BULK AT MOST 1048576: true; the input reads as it did. -/
def fnExactIsRuleUptoRow : OpenClaim := { program := "ytneonebgneonkaa", sum := "bf1b3ebc5b54dd6e99db4198eafb8e4abe25f15a52be79ecedc9a0529a177f00", func := "loop.example/g01141/laws.FnExactIsRule", spec := "fnExactIsRule", apart := false, narrowed := true }
def FnExactIsRuleUptoSaid : Prop := fnExactIsRuleUptoRow.holds Try.pinned (OpenSpec.upto fnExactIsRuleSpec)

/-- 'laws.FnExactNamedRule', WHERE WHAT IT READS IS OF BULK AT MOST 1048576: true; the input reads as it did. -/
def fnExactNamedRuleUptoRow : OpenClaim := { program := "ytneonebgneonkaa", sum := "bf1b3ebc5b54dd6e99db4198eafb8e4abe25f15a52be79ecedc9a0529a177f00", func := "loop.example/g01141/laws.FnExactNamedRule", spec := "fnExactNamedRule", apart := false, narrowed := true }
def FnExactNamedRuleUptoSaid : Prop := fnExactNamedRuleUptoRow.holds Try.pinned (OpenSpec.upto fnExactNamedRuleSpec)

/-- 'laws.FnExactSumRuleBy', WHERE WHAT IT READS IS OF BULK AT MOST 1048576: true; the input reads as it did. -/
def fnExactSumRuleByUptoRow : OpenClaim := { program := "ytneonebgneonkaa", sum := "bf1b3ebc5b54dd6e99db4198eafb8e4abe25f15a52be79ecedc9a0529a177f00", func := "loop.example/g01141/laws.FnExactSumRuleBy", spec := "fnExactSumRuleBy", apart := false, narrowed := true }
def FnExactSumRuleByUptoSaid : Prop := fnExactSumRuleByUptoRow.holds Try.pinned (OpenSpec.upto fnExactSumRuleBySpec)

/-- 'laws.FnExactFlipRule', WHERE WHAT IT READS IS OF BULK AT MOST 1048576: true; the input reads as it did. -/
def fnExactFlipRuleUptoRow : OpenClaim := { program := "ytneonebgneonkaa", sum := "bf1b3ebc5b54dd6e99db4198eafb8e4abe25f15a52be79ecedc9a0529a177f00", func := "loop.example/g01141/laws.FnExactFlipRule", spec := "fnExactFlipRule", apart := false, narrowed := true }
def FnExactFlipRuleUptoSaid : Prop := fnExactFlipRuleUptoRow.holds Try.pinned (OpenSpec.upto fnExactFlipRuleSpec)

/-- 'laws.FnExactPlayThrough', WHERE WHAT IT READS IS OF BULK AT MOST 1048576: true; the input reads as it did. -/
def fnExactPlayThroughUptoRow : OpenClaim := { program := "ytneonebgneonkaa", sum := "bf1b3ebc5b54dd6e99db4198eafb8e4abe25f15a52be79ecedc9a0529a177f00", func := "loop.example/g01141/laws.FnExactPlayThrough", spec := "fnExactPlayThrough", apart := false, narrowed := true }
def FnExactPlayThroughUptoSaid : Prop := fnExactPlayThroughUptoRow.holds Try.pinned (OpenSpec.upto fnExactPlayThroughSpec)

/-- 'laws.FnExactWireBoxes', WHERE WHAT IT READS IS OF BULK AT MOST 1048576: true; the input reads as it did. -/
def fnExactWireBoxesUptoRow : OpenClaim := { program := "ytneonebgneonkaa", sum := "bf1b3ebc5b54dd6e99db4198eafb8e4abe25f15a52be79ecedc9a0529a177f00", func := "loop.example/g01141/laws.FnExactWireBoxes", spec := "fnExactWireBoxes", unfollowed := true, recurses := true, apart := false, narrowed := true }
def FnExactWireBoxesUptoSaid : Prop := fnExactWireBoxesUptoRow.holds Try.pinned (OpenSpec.upto fnExactWireBoxesSpec)

/-- 'laws.FnExactSumBoxes', WHERE WHAT IT READS IS OF BULK AT MOST 1048576: true; the input reads as it did. -/
def fnExactSumBoxesUptoRow : OpenClaim := { program := "ytneonebgneonkaa", sum := "bf1b3ebc5b54dd6e99db4198eafb8e4abe25f15a52be79ecedc9a0529a177f00", func := "loop.example/g01141/laws.FnExactSumBoxes", spec := "fnExactSumBoxes", unfollowed := true, recurses := true, apart := false, narrowed := true }
def FnExactSumBoxesUptoSaid : Prop := fnExactSumBoxesUptoRow.holds Try.pinned (OpenSpec.upto fnExactSumBoxesSpec)

/-- 'laws.FnExactRepeatSum', WHERE WHAT IT READS IS OF BULK AT MOST 1048576: true; the input reads as it did. -/
def fnExactRepeatSumUptoRow : OpenClaim := { program := "ytneonebgneonkaa", sum := "bf1b3ebc5b54dd6e99db4198eafb8e4abe25f15a52be79ecedc9a0529a177f00", func := "loop.example/g01141/laws.FnExactRepeatSum", spec := "fnExactRepeatSum", unfollowed := true, recurses := true, apart := false, narrowed := true }
def FnExactRepeatSumUptoSaid : Prop := fnExactRepeatSumUptoRow.holds Try.pinned (OpenSpec.upto fnExactRepeatSumSpec)

/-- 'laws.FnExactBestAsks', WHERE WHAT IT READS IS OF BULK AT MOST 1048576: true; the input reads as it did. -/
def fnExactBestAsksUptoRow : OpenClaim := { program := "ytneonebgneonkaa", sum := "bf1b3ebc5b54dd6e99db4198eafb8e4abe25f15a52be79ecedc9a0529a177f00", func := "loop.example/g01141/laws.FnExactBestAsks", spec := "fnExactBestAsks", unfollowed := true, recurses := true, apart := false, narrowed := true }
def FnExactBestAsksUptoSaid : Prop := fnExactBestAsksUptoRow.holds Try.pinned (OpenSpec.upto fnExactBestAsksSpec)

/-- 'laws.FnExactMixWirings', WHERE WHAT IT READS IS OF BULK AT MOST 1048576: true; the input reads as it did. -/
def fnExactMixWiringsUptoRow : OpenClaim := { program := "ytneonebgneonkaa", sum := "bf1b3ebc5b54dd6e99db4198eafb8e4abe25f15a52be79ecedc9a0529a177f00", func := "loop.example/g01141/laws.FnExactMixWirings", spec := "fnExactMixWirings", unfollowed := true, recurses := true, apart := false, narrowed := true }
def FnExactMixWiringsUptoSaid : Prop := fnExactMixWiringsUptoRow.holds Try.pinned (OpenSpec.upto fnExactMixWiringsSpec)

/-- 'laws.FnExactSameByNames', WHERE WHAT IT READS IS OF BULK AT MOST 1048576: true; the input reads as it did. -/
def fnExactSameByNamesUptoRow : OpenClaim := { program := "ytneonebgneonkaa", sum := "bf1b3ebc5b54dd6e99db4198eafb8e4abe25f15a52be79ecedc9a0529a177f00", func := "loop.example/g01141/laws.FnExactSameByNames", spec := "fnExactSameByNames", inPlace := ["slices.overlaps[int]"], unfollowed := true, recurses := true, apart := false, narrowed := true }
def FnExactSameByNamesUptoSaid : Prop := fnExactSameByNamesUptoRow.holds Try.pinned (OpenSpec.upto fnExactSameByNamesSpec)

/-- 'laws.FnExactJoinScenes', WHERE WHAT IT READS IS OF BULK AT MOST 1048576: true; the input reads as it did. -/
def fnExactJoinScenesUptoRow : OpenClaim := { program := "ytneonebgneonkaa", sum := "bf1b3ebc5b54dd6e99db4198eafb8e4abe25f15a52be79ecedc9a0529a177f00", func := "loop.example/g01141/laws.FnExactJoinScenes", spec := "fnExactJoinScenes", apart := false, narrowed := true }
def FnExactJoinScenesUptoSaid : Prop := fnExactJoinScenesUptoRow.holds Try.pinned (OpenSpec.upto fnExactJoinScenesSpec)

end Rows
end Go.Proofs.Ytneonebgneonkaa
