/-
  No cell of these rows narrows 'for every input' (looked for: loops, veiled, ifaces, maps, wideKeys, modest, calm, conditions, laid).
  DERIVED. THE GIVEN ROWS OF THIS SEAT. 12 by the template 'for every input the law returns true; each argument reads behind the call as it read before'; 0 by the template 'total and deterministic' (their statements: YtiigfhigmdjooaaTotals.lean).
  GIVEN WITH THE SEED: the statements are not yours to turn. If you find one false, say at which input.
  Laid BY PROGRAM, IN A SANDBOX (cutbox-rows.mjs): the forced cells as the released guide's own fill.sh prints them over the translation 0612c5785062e9b7… (all of the seat's roots in one cut). By AI agents, Wed Nov 11 2026. No macro, syntax, notation, axiom, sorry.
-/
import Derived.Test.YtiigfhigmdjooaaChecked
import GoSem.Claim
import GoSem.ClaimJoined
import GoSem.ClaimMapViews
import Derived.JoinedTies
import Derived.KernelRfl
namespace Go.Proofs.Ytiigfhigmdjooaa
/- THE CELL 'sum', in the pinned program and in every row, IS THE sha256 OF THE DUMP (.gsa) THAT YtiigfhigmdjooaaProg.lean LOADS. Nothing in Lean hashes anything: it is a label: what it is worth is what the hold of that sum in a sandbox is worth. -/
noncomputable def Try.pinned : Pinned := { name := "ytiigfhigmdjooaa", sum := "0612c5785062e9b73b43484a8362f5afb7684369a57b2b450174d717c2311c53", checked := Try.checked }
namespace Rows
def none {H : Type} : Left H := { results := [], args := [] }

/-- 'laws.FnExactMixWirings': WHATEVER THE INPUT: true; the input reads as it did. -/
def fnExactMixWiringsSpec : ChangeSpec := { name := "fnExactMixWirings", fn := fun _ => fun
  | [d1, d2, d3, d4] => { results := [.lit (.bool true)], args := [d1, d2, d3, d4] }
  | _ => none }
def fnExactMixWiringsRow : OpenClaim := { program := "ytiigfhigmdjooaa", sum := "0612c5785062e9b73b43484a8362f5afb7684369a57b2b450174d717c2311c53", func := "loop.example/g01141/laws.FnExactMixWirings", spec := "fnExactMixWirings", unfollowed := true, recurses := true, plainKeys := false, apart := false }
def FnExactMixWiringsSaid : Prop := fnExactMixWiringsRow.holds Try.pinned (OpenSpec.ofChange fnExactMixWiringsSpec)

/-- ITS FALSE NEIGHBOUR: 'it returns false'. Refute it at one input. -/
def fnExactMixWiringsWrong : ChangeSpec := { name := "fnExactMixWirings", fn := fun _ => fun
  | [d1, d2, d3, d4] => { results := [.lit (.bool false)], args := [d1, d2, d3, d4] }
  | _ => none }
def FnExactMixWiringsWrongFalsely : Prop := fnExactMixWiringsRow.holds Try.pinned (OpenSpec.ofChange fnExactMixWiringsWrong)

/-- 'laws.FnExactJoinScenes': WHATEVER THE INPUT: true; the input reads as it did. -/
def fnExactJoinScenesSpec : ChangeSpec := { name := "fnExactJoinScenes", fn := fun _ => fun
  | [d1, d2] => { results := [.lit (.bool true)], args := [d1, d2] }
  | _ => none }
def fnExactJoinScenesRow : OpenClaim := { program := "ytiigfhigmdjooaa", sum := "0612c5785062e9b73b43484a8362f5afb7684369a57b2b450174d717c2311c53", func := "loop.example/g01141/laws.FnExactJoinScenes", spec := "fnExactJoinScenes", plainKeys := false, apart := false }
def FnExactJoinScenesSaid : Prop := fnExactJoinScenesRow.holds Try.pinned (OpenSpec.ofChange fnExactJoinScenesSpec)

/-- ITS FALSE NEIGHBOUR: 'it returns false'. Refute it at one input. -/
def fnExactJoinScenesWrong : ChangeSpec := { name := "fnExactJoinScenes", fn := fun _ => fun
  | [d1, d2] => { results := [.lit (.bool false)], args := [d1, d2] }
  | _ => none }
def FnExactJoinScenesWrongFalsely : Prop := fnExactJoinScenesRow.holds Try.pinned (OpenSpec.ofChange fnExactJoinScenesWrong)

/-- 'laws.FnExactSameByNames': WHATEVER THE INPUT: true; the input reads as it did. -/
def fnExactSameByNamesSpec : ChangeSpec := { name := "fnExactSameByNames", fn := fun _ => fun
  | [d1, d2] => { results := [.lit (.bool true)], args := [d1, d2] }
  | _ => none }
def fnExactSameByNamesRow : OpenClaim := { program := "ytiigfhigmdjooaa", sum := "0612c5785062e9b73b43484a8362f5afb7684369a57b2b450174d717c2311c53", func := "loop.example/g01141/laws.FnExactSameByNames", spec := "fnExactSameByNames", inPlace := ["slices.overlaps[int]"], unfollowed := true, recurses := true, plainKeys := false, apart := false }
def FnExactSameByNamesSaid : Prop := fnExactSameByNamesRow.holds Try.pinned (OpenSpec.ofChange fnExactSameByNamesSpec)

/-- ITS FALSE NEIGHBOUR: 'it returns false'. Refute it at one input. -/
def fnExactSameByNamesWrong : ChangeSpec := { name := "fnExactSameByNames", fn := fun _ => fun
  | [d1, d2] => { results := [.lit (.bool false)], args := [d1, d2] }
  | _ => none }
def FnExactSameByNamesWrongFalsely : Prop := fnExactSameByNamesRow.holds Try.pinned (OpenSpec.ofChange fnExactSameByNamesWrong)

/-- 'laws.FnExactSignBias': WHATEVER THE INPUT: true; the input reads as it did. -/
def fnExactSignBiasSpec : ChangeSpec := { name := "fnExactSignBias", fn := fun _ => fun
  | [d] => { results := [.lit (.bool true)], args := [d] }
  | _ => none }
def fnExactSignBiasRow : OpenClaim := { program := "ytiigfhigmdjooaa", sum := "0612c5785062e9b73b43484a8362f5afb7684369a57b2b450174d717c2311c53", func := "loop.example/g01141/laws.FnExactSignBias", spec := "fnExactSignBias", unfollowed := true, recurses := true, plainKeys := false, apart := false }
def FnExactSignBiasSaid : Prop := fnExactSignBiasRow.holds Try.pinned (OpenSpec.ofChange fnExactSignBiasSpec)

/-- ITS FALSE NEIGHBOUR: 'it returns false'. Refute it at one input. -/
def fnExactSignBiasWrong : ChangeSpec := { name := "fnExactSignBias", fn := fun _ => fun
  | [d] => { results := [.lit (.bool false)], args := [d] }
  | _ => none }
def FnExactSignBiasWrongFalsely : Prop := fnExactSignBiasRow.holds Try.pinned (OpenSpec.ofChange fnExactSignBiasWrong)

/-- 'laws.FnExactBestSigns': WHATEVER THE INPUT: true; the input reads as it did. -/
def fnExactBestSignsSpec : ChangeSpec := { name := "fnExactBestSigns", fn := fun _ => fun
  | [d] => { results := [.lit (.bool true)], args := [d] }
  | _ => none }
def fnExactBestSignsRow : OpenClaim := { program := "ytiigfhigmdjooaa", sum := "0612c5785062e9b73b43484a8362f5afb7684369a57b2b450174d717c2311c53", func := "loop.example/g01141/laws.FnExactBestSigns", spec := "fnExactBestSigns", unfollowed := true, recurses := true, plainKeys := false, apart := false }
def FnExactBestSignsSaid : Prop := fnExactBestSignsRow.holds Try.pinned (OpenSpec.ofChange fnExactBestSignsSpec)

/-- ITS FALSE NEIGHBOUR: 'it returns false'. Refute it at one input. -/
def fnExactBestSignsWrong : ChangeSpec := { name := "fnExactBestSigns", fn := fun _ => fun
  | [d] => { results := [.lit (.bool false)], args := [d] }
  | _ => none }
def FnExactBestSignsWrongFalsely : Prop := fnExactBestSignsRow.holds Try.pinned (OpenSpec.ofChange fnExactBestSignsWrong)

/-- 'laws.FnExactCutOf': WHATEVER THE INPUT: true; the input reads as it did. -/
def fnExactCutOfSpec : ChangeSpec := { name := "fnExactCutOf", fn := fun _ => fun
  | [d] => { results := [.lit (.bool true)], args := [d] }
  | _ => none }
def fnExactCutOfRow : OpenClaim := { program := "ytiigfhigmdjooaa", sum := "0612c5785062e9b73b43484a8362f5afb7684369a57b2b450174d717c2311c53", func := "loop.example/g01141/laws.FnExactCutOf", spec := "fnExactCutOf", unfollowed := true, recurses := true, plainKeys := false, apart := false }
def FnExactCutOfSaid : Prop := fnExactCutOfRow.holds Try.pinned (OpenSpec.ofChange fnExactCutOfSpec)

/-- ITS FALSE NEIGHBOUR: 'it returns false'. Refute it at one input. -/
def fnExactCutOfWrong : ChangeSpec := { name := "fnExactCutOf", fn := fun _ => fun
  | [d] => { results := [.lit (.bool false)], args := [d] }
  | _ => none }
def FnExactCutOfWrongFalsely : Prop := fnExactCutOfRow.holds Try.pinned (OpenSpec.ofChange fnExactCutOfWrong)

/-- 'laws.FnExactFirstSwitched': WHATEVER THE INPUT: true; the input reads as it did. -/
def fnExactFirstSwitchedSpec : ChangeSpec := { name := "fnExactFirstSwitched", fn := fun _ => fun
  | [d] => { results := [.lit (.bool true)], args := [d] }
  | _ => none }
def fnExactFirstSwitchedRow : OpenClaim := { program := "ytiigfhigmdjooaa", sum := "0612c5785062e9b73b43484a8362f5afb7684369a57b2b450174d717c2311c53", func := "loop.example/g01141/laws.FnExactFirstSwitched", spec := "fnExactFirstSwitched", unfollowed := true, recurses := true, plainKeys := false, apart := false }
def FnExactFirstSwitchedSaid : Prop := fnExactFirstSwitchedRow.holds Try.pinned (OpenSpec.ofChange fnExactFirstSwitchedSpec)

/-- ITS FALSE NEIGHBOUR: 'it returns false'. Refute it at one input. -/
def fnExactFirstSwitchedWrong : ChangeSpec := { name := "fnExactFirstSwitched", fn := fun _ => fun
  | [d] => { results := [.lit (.bool false)], args := [d] }
  | _ => none }
def FnExactFirstSwitchedWrongFalsely : Prop := fnExactFirstSwitchedRow.holds Try.pinned (OpenSpec.ofChange fnExactFirstSwitchedWrong)

/-- 'laws.FnExactAreSwitched': WHATEVER THE INPUT: true; the input reads as it did. -/
def fnExactAreSwitchedSpec : ChangeSpec := { name := "fnExactAreSwitched", fn := fun _ => fun
  | [d1, d2] => { results := [.lit (.bool true)], args := [d1, d2] }
  | _ => none }
def fnExactAreSwitchedRow : OpenClaim := { program := "ytiigfhigmdjooaa", sum := "0612c5785062e9b73b43484a8362f5afb7684369a57b2b450174d717c2311c53", func := "loop.example/g01141/laws.FnExactAreSwitched", spec := "fnExactAreSwitched", unfollowed := true, recurses := true, plainKeys := false, apart := false }
def FnExactAreSwitchedSaid : Prop := fnExactAreSwitchedRow.holds Try.pinned (OpenSpec.ofChange fnExactAreSwitchedSpec)

/-- ITS FALSE NEIGHBOUR: 'it returns false'. Refute it at one input. -/
def fnExactAreSwitchedWrong : ChangeSpec := { name := "fnExactAreSwitched", fn := fun _ => fun
  | [d1, d2] => { results := [.lit (.bool false)], args := [d1, d2] }
  | _ => none }
def FnExactAreSwitchedWrongFalsely : Prop := fnExactAreSwitchedRow.holds Try.pinned (OpenSpec.ofChange fnExactAreSwitchedWrong)

/-- 'laws.FnExactNeedOf': WHATEVER THE INPUT: true; the input reads as it did. -/
def fnExactNeedOfSpec : ChangeSpec := { name := "fnExactNeedOf", fn := fun _ => fun
  | [d] => { results := [.lit (.bool true)], args := [d] }
  | _ => none }
def fnExactNeedOfRow : OpenClaim := { program := "ytiigfhigmdjooaa", sum := "0612c5785062e9b73b43484a8362f5afb7684369a57b2b450174d717c2311c53", func := "loop.example/g01141/laws.FnExactNeedOf", spec := "fnExactNeedOf", unfollowed := true, recurses := true, plainKeys := false, apart := false }
def FnExactNeedOfSaid : Prop := fnExactNeedOfRow.holds Try.pinned (OpenSpec.ofChange fnExactNeedOfSpec)

/-- ITS FALSE NEIGHBOUR: 'it returns false'. Refute it at one input. -/
def fnExactNeedOfWrong : ChangeSpec := { name := "fnExactNeedOf", fn := fun _ => fun
  | [d] => { results := [.lit (.bool false)], args := [d] }
  | _ => none }
def FnExactNeedOfWrongFalsely : Prop := fnExactNeedOfRow.holds Try.pinned (OpenSpec.ofChange fnExactNeedOfWrong)

/-- 'laws.FnExactFirstSplit': WHATEVER THE INPUT: true; the input reads as it did. -/
def fnExactFirstSplitSpec : ChangeSpec := { name := "fnExactFirstSplit", fn := fun _ => fun
  | [d] => { results := [.lit (.bool true)], args := [d] }
  | _ => none }
def fnExactFirstSplitRow : OpenClaim := { program := "ytiigfhigmdjooaa", sum := "0612c5785062e9b73b43484a8362f5afb7684369a57b2b450174d717c2311c53", func := "loop.example/g01141/laws.FnExactFirstSplit", spec := "fnExactFirstSplit", unfollowed := true, recurses := true, plainKeys := false, apart := false }
def FnExactFirstSplitSaid : Prop := fnExactFirstSplitRow.holds Try.pinned (OpenSpec.ofChange fnExactFirstSplitSpec)

/-- ITS FALSE NEIGHBOUR: 'it returns false'. Refute it at one input. -/
def fnExactFirstSplitWrong : ChangeSpec := { name := "fnExactFirstSplit", fn := fun _ => fun
  | [d] => { results := [.lit (.bool false)], args := [d] }
  | _ => none }
def FnExactFirstSplitWrongFalsely : Prop := fnExactFirstSplitRow.holds Try.pinned (OpenSpec.ofChange fnExactFirstSplitWrong)

/-- 'laws.FnExactBestTalk': WHATEVER THE INPUT: true; the input reads as it did. -/
def fnExactBestTalkSpec : ChangeSpec := { name := "fnExactBestTalk", fn := fun _ => fun
  | [d] => { results := [.lit (.bool true)], args := [d] }
  | _ => none }
def fnExactBestTalkRow : OpenClaim := { program := "ytiigfhigmdjooaa", sum := "0612c5785062e9b73b43484a8362f5afb7684369a57b2b450174d717c2311c53", func := "loop.example/g01141/laws.FnExactBestTalk", spec := "fnExactBestTalk", unfollowed := true, recurses := true, plainKeys := false, apart := false }
def FnExactBestTalkSaid : Prop := fnExactBestTalkRow.holds Try.pinned (OpenSpec.ofChange fnExactBestTalkSpec)

/-- ITS FALSE NEIGHBOUR: 'it returns false'. Refute it at one input. -/
def fnExactBestTalkWrong : ChangeSpec := { name := "fnExactBestTalk", fn := fun _ => fun
  | [d] => { results := [.lit (.bool false)], args := [d] }
  | _ => none }
def FnExactBestTalkWrongFalsely : Prop := fnExactBestTalkRow.holds Try.pinned (OpenSpec.ofChange fnExactBestTalkWrong)

/-- 'laws.FnExactFirstSolution': WHATEVER THE INPUT: true; the input reads as it did. -/
def fnExactFirstSolutionSpec : ChangeSpec := { name := "fnExactFirstSolution", fn := fun _ => fun
  | [d] => { results := [.lit (.bool true)], args := [d] }
  | _ => none }
def fnExactFirstSolutionRow : OpenClaim := { program := "ytiigfhigmdjooaa", sum := "0612c5785062e9b73b43484a8362f5afb7684369a57b2b450174d717c2311c53", func := "loop.example/g01141/laws.FnExactFirstSolution", spec := "fnExactFirstSolution", unfollowed := true, recurses := true, plainKeys := false, apart := false }
def FnExactFirstSolutionSaid : Prop := fnExactFirstSolutionRow.holds Try.pinned (OpenSpec.ofChange fnExactFirstSolutionSpec)

/-- ITS FALSE NEIGHBOUR: 'it returns false'. Refute it at one input. -/
def fnExactFirstSolutionWrong : ChangeSpec := { name := "fnExactFirstSolution", fn := fun _ => fun
  | [d] => { results := [.lit (.bool false)], args := [d] }
  | _ => none }
def FnExactFirstSolutionWrongFalsely : Prop := fnExactFirstSolutionRow.holds Try.pinned (OpenSpec.ofChange fnExactFirstSolutionWrong)

/- THE SECOND FORM. 'bulk': how many values and letters a reading holds, each counted each time it is reached (what is shared counts as often as it is met; a slice's spare places count too). A statement '..UptoSaid' is the law's where the arguments, and the package variables that the reading takes, are together of bulk at most 1048576: NARROWER than '..Said'. Prove '..Said' where nothing that the law and all that it calls make is longer than what came in: it says more and counts as full. Else prove '..UptoSaid'. A law counts once. -/
mutual
def uptoBulk {H : Type} : DataW H → Nat
  | .lit (.string bytes) => bytes.length + 1
  | .lit _ => 1
  | .nil => 1
  | .ptr d => uptoBulk d + 1
  | .slice elems spare => uptoBulkAll elems + uptoBulkAll spare + 1
  | .agg parts => uptoBulkAll parts + 1
  | .iface _ d => uptoBulk d + 1
  | .map entries => uptoBulkEntries entries + 1
  | .held _ => 1
def uptoBulkAll {H : Type} : List (DataW H) → Nat
  | [] => 0
  | d :: r => uptoBulk d + uptoBulkAll r
def uptoBulkEntries {H : Type} : List (Lit × DataW H) → Nat
  | [] => 0
  | x :: r => uptoBulkEntry x + uptoBulkEntries r
def uptoBulkEntry {H : Type} : Lit × DataW H → Nat
  | (.string bytes, d) => bytes.length + uptoBulk d + 1
  | (_, d) => uptoBulk d + 1
 end
def uptoSmall : (H : Type) → List (DataW H) → Bool := fun _ ds => decide (uptoBulkAll ds ≤ 1048576)
def OpenSpec.upto (s : _root_.Go.ChangeSpec) : _root_.Go.OpenSpec := { _root_.Go.OpenSpec.ofChange s with cond := some uptoSmall }

/-- 'laws.FnExactMixWirings', WHERE WHAT IT READS IS OF BULK AT MOST 1048576: true; the input reads as it did. -/
def fnExactMixWiringsUptoRow : OpenClaim := { program := "ytiigfhigmdjooaa", sum := "0612c5785062e9b73b43484a8362f5afb7684369a57b2b450174d717c2311c53", func := "loop.example/g01141/laws.FnExactMixWirings", spec := "fnExactMixWirings", unfollowed := true, recurses := true, plainKeys := false, apart := false, narrowed := true }
def FnExactMixWiringsUptoSaid : Prop := fnExactMixWiringsUptoRow.holds Try.pinned (OpenSpec.upto fnExactMixWiringsSpec)

/-- 'laws.FnExactJoinScenes', WHERE WHAT IT READS IS OF BULK AT MOST 1048576: true; the input reads as it did. -/
def fnExactJoinScenesUptoRow : OpenClaim := { program := "ytiigfhigmdjooaa", sum := "0612c5785062e9b73b43484a8362f5afb7684369a57b2b450174d717c2311c53", func := "loop.example/g01141/laws.FnExactJoinScenes", spec := "fnExactJoinScenes", plainKeys := false, apart := false, narrowed := true }
def FnExactJoinScenesUptoSaid : Prop := fnExactJoinScenesUptoRow.holds Try.pinned (OpenSpec.upto fnExactJoinScenesSpec)

/-- 'laws.FnExactSameByNames', WHERE WHAT IT READS IS OF BULK AT MOST 1048576: true; the input reads as it did. -/
def fnExactSameByNamesUptoRow : OpenClaim := { program := "ytiigfhigmdjooaa", sum := "0612c5785062e9b73b43484a8362f5afb7684369a57b2b450174d717c2311c53", func := "loop.example/g01141/laws.FnExactSameByNames", spec := "fnExactSameByNames", inPlace := ["slices.overlaps[int]"], unfollowed := true, recurses := true, plainKeys := false, apart := false, narrowed := true }
def FnExactSameByNamesUptoSaid : Prop := fnExactSameByNamesUptoRow.holds Try.pinned (OpenSpec.upto fnExactSameByNamesSpec)

/-- 'laws.FnExactSignBias', WHERE WHAT IT READS IS OF BULK AT MOST 1048576: true; the input reads as it did. -/
def fnExactSignBiasUptoRow : OpenClaim := { program := "ytiigfhigmdjooaa", sum := "0612c5785062e9b73b43484a8362f5afb7684369a57b2b450174d717c2311c53", func := "loop.example/g01141/laws.FnExactSignBias", spec := "fnExactSignBias", unfollowed := true, recurses := true, plainKeys := false, apart := false, narrowed := true }
def FnExactSignBiasUptoSaid : Prop := fnExactSignBiasUptoRow.holds Try.pinned (OpenSpec.upto fnExactSignBiasSpec)

/-- 'laws.FnExactBestSigns', WHERE WHAT IT READS IS OF BULK AT MOST 1048576: true; the input reads as it did. -/
def fnExactBestSignsUptoRow : OpenClaim := { program := "ytiigfhigmdjooaa", sum := "0612c5785062e9b73b43484a8362f5afb7684369a57b2b450174d717c2311c53", func := "loop.example/g01141/laws.FnExactBestSigns", spec := "fnExactBestSigns", unfollowed := true, recurses := true, plainKeys := false, apart := false, narrowed := true }
def FnExactBestSignsUptoSaid : Prop := fnExactBestSignsUptoRow.holds Try.pinned (OpenSpec.upto fnExactBestSignsSpec)

/-- 'laws.FnExactCutOf', WHERE WHAT IT READS IS OF BULK AT MOST 1048576: true; the input reads as it did. -/
def fnExactCutOfUptoRow : OpenClaim := { program := "ytiigfhigmdjooaa", sum := "0612c5785062e9b73b43484a8362f5afb7684369a57b2b450174d717c2311c53", func := "loop.example/g01141/laws.FnExactCutOf", spec := "fnExactCutOf", unfollowed := true, recurses := true, plainKeys := false, apart := false, narrowed := true }
def FnExactCutOfUptoSaid : Prop := fnExactCutOfUptoRow.holds Try.pinned (OpenSpec.upto fnExactCutOfSpec)

/-- 'laws.FnExactFirstSwitched', WHERE WHAT IT READS IS OF BULK AT MOST 1048576: true; the input reads as it did. -/
def fnExactFirstSwitchedUptoRow : OpenClaim := { program := "ytiigfhigmdjooaa", sum := "0612c5785062e9b73b43484a8362f5afb7684369a57b2b450174d717c2311c53", func := "loop.example/g01141/laws.FnExactFirstSwitched", spec := "fnExactFirstSwitched", unfollowed := true, recurses := true, plainKeys := false, apart := false, narrowed := true }
def FnExactFirstSwitchedUptoSaid : Prop := fnExactFirstSwitchedUptoRow.holds Try.pinned (OpenSpec.upto fnExactFirstSwitchedSpec)

/-- 'laws.FnExactAreSwitched', WHERE WHAT IT READS IS OF BULK AT MOST 1048576: true; the input reads as it did. -/
def fnExactAreSwitchedUptoRow : OpenClaim := { program := "ytiigfhigmdjooaa", sum := "0612c5785062e9b73b43484a8362f5afb7684369a57b2b450174d717c2311c53", func := "loop.example/g01141/laws.FnExactAreSwitched", spec := "fnExactAreSwitched", unfollowed := true, recurses := true, plainKeys := false, apart := false, narrowed := true }
def FnExactAreSwitchedUptoSaid : Prop := fnExactAreSwitchedUptoRow.holds Try.pinned (OpenSpec.upto fnExactAreSwitchedSpec)

/-- 'laws.FnExactNeedOf', WHERE WHAT IT READS IS OF BULK AT MOST 1048576: true; the input reads as it did. -/
def fnExactNeedOfUptoRow : OpenClaim := { program := "ytiigfhigmdjooaa", sum := "0612c5785062e9b73b43484a8362f5afb7684369a57b2b450174d717c2311c53", func := "loop.example/g01141/laws.FnExactNeedOf", spec := "fnExactNeedOf", unfollowed := true, recurses := true, plainKeys := false, apart := false, narrowed := true }
def FnExactNeedOfUptoSaid : Prop := fnExactNeedOfUptoRow.holds Try.pinned (OpenSpec.upto fnExactNeedOfSpec)

/-- 'laws.FnExactFirstSplit', WHERE WHAT IT READS IS OF BULK AT MOST 1048576: true; the input reads as it did. -/
def fnExactFirstSplitUptoRow : OpenClaim := { program := "ytiigfhigmdjooaa", sum := "0612c5785062e9b73b43484a8362f5afb7684369a57b2b450174d717c2311c53", func := "loop.example/g01141/laws.FnExactFirstSplit", spec := "fnExactFirstSplit", unfollowed := true, recurses := true, plainKeys := false, apart := false, narrowed := true }
def FnExactFirstSplitUptoSaid : Prop := fnExactFirstSplitUptoRow.holds Try.pinned (OpenSpec.upto fnExactFirstSplitSpec)

/-- 'laws.FnExactBestTalk', WHERE WHAT IT READS IS OF BULK AT MOST 1048576: true; the input reads as it did. -/
def fnExactBestTalkUptoRow : OpenClaim := { program := "ytiigfhigmdjooaa", sum := "0612c5785062e9b73b43484a8362f5afb7684369a57b2b450174d717c2311c53", func := "loop.example/g01141/laws.FnExactBestTalk", spec := "fnExactBestTalk", unfollowed := true, recurses := true, plainKeys := false, apart := false, narrowed := true }
def FnExactBestTalkUptoSaid : Prop := fnExactBestTalkUptoRow.holds Try.pinned (OpenSpec.upto fnExactBestTalkSpec)

/-- 'laws.FnExactFirstSolution', WHERE WHAT IT READS IS OF BULK AT MOST 1048576: true; the input reads as it did. -/
def fnExactFirstSolutionUptoRow : OpenClaim := { program := "ytiigfhigmdjooaa", sum := "0612c5785062e9b73b43484a8362f5afb7684369a57b2b450174d717c2311c53", func := "loop.example/g01141/laws.FnExactFirstSolution", spec := "fnExactFirstSolution", unfollowed := true, recurses := true, plainKeys := false, apart := false, narrowed := true }
def FnExactFirstSolutionUptoSaid : Prop := fnExactFirstSolutionUptoRow.holds Try.pinned (OpenSpec.upto fnExactFirstSolutionSpec)

end Rows
end Go.Proofs.Ytiigfhigmdjooaa
