/-
  No cell of these rows narrows 'for every input' (looked for: loops, veiled, ifaces, maps, wideKeys, modest, calm, conditions, laid).
  DERIVED. THE GIVEN ROWS OF THIS SEAT. 12 by the template 'for every input the law returns true; each argument reads behind the call as it read before'; 0 by the template 'total and deterministic' (their statements: YtimfnhejiiagmaaTotals.lean).
  GIVEN WITH THE SEED: the statements are not yours to turn. If you find one false, say at which input.
  Laid BY PROGRAM, IN A SANDBOX (cutbox-rows.mjs): the forced cells as the released guide's own fill.sh prints them over the translation 3660d9c7ef2bdc92… (all of the seat's roots in one cut). By AI agents, Wed Nov 11 2026. No macro, syntax, notation, axiom, sorry.
-/
import Derived.Test.YtimfnhejiiagmaaChecked
import GoSem.Claim
import GoSem.ClaimJoined
import GoSem.ClaimMapViews
import Derived.JoinedTies
import Derived.KernelRfl
namespace Go.Proofs.Ytimfnhejiiagmaa
/- THE CELL 'sum', in the pinned program and in every row, IS THE sha256 OF THE DUMP (.gsa) THAT YtimfnhejiiagmaaProg.lean LOADS. Nothing in Lean hashes anything: it is a label: what it is worth is what the hold of that sum in a sandbox is worth. -/
noncomputable def Try.pinned : Pinned := { name := "ytimfnhejiiagmaa", sum := "3660d9c7ef2bdc929648be332cda77a925d7ecf22f02be9570b4d37ab2c434a3", checked := Try.checked }
namespace Rows
def none {H : Type} : Left H := { results := [], args := [] }

/-- 'laws.FnExactFirstSum': WHATEVER THE INPUT: true; the input reads as it did. -/
def fnExactFirstSumSpec : ChangeSpec := { name := "fnExactFirstSum", fn := fun _ => fun
  | [d] => { results := [.lit (.bool true)], args := [d] }
  | _ => none }
def fnExactFirstSumRow : OpenClaim := { program := "ytimfnhejiiagmaa", sum := "3660d9c7ef2bdc929648be332cda77a925d7ecf22f02be9570b4d37ab2c434a3", func := "loop.example/g01141/laws.FnExactFirstSum", spec := "fnExactFirstSum", plainKeys := false, apart := false }
def FnExactFirstSumSaid : Prop := fnExactFirstSumRow.holds Try.pinned (OpenSpec.ofChange fnExactFirstSumSpec)

/-- ITS FALSE NEIGHBOUR: 'it returns false'. Refute it at one input. -/
def fnExactFirstSumWrong : ChangeSpec := { name := "fnExactFirstSum", fn := fun _ => fun
  | [d] => { results := [.lit (.bool false)], args := [d] }
  | _ => none }
def FnExactFirstSumWrongFalsely : Prop := fnExactFirstSumRow.holds Try.pinned (OpenSpec.ofChange fnExactFirstSumWrong)

/-- 'laws.FnExactSameByNames': WHATEVER THE INPUT: true; the input reads as it did. -/
def fnExactSameByNamesSpec : ChangeSpec := { name := "fnExactSameByNames", fn := fun _ => fun
  | [d1, d2] => { results := [.lit (.bool true)], args := [d1, d2] }
  | _ => none }
def fnExactSameByNamesRow : OpenClaim := { program := "ytimfnhejiiagmaa", sum := "3660d9c7ef2bdc929648be332cda77a925d7ecf22f02be9570b4d37ab2c434a3", func := "loop.example/g01141/laws.FnExactSameByNames", spec := "fnExactSameByNames", inPlace := ["slices.overlaps[int]"], unfollowed := true, recurses := true, plainKeys := false, apart := false }
def FnExactSameByNamesSaid : Prop := fnExactSameByNamesRow.holds Try.pinned (OpenSpec.ofChange fnExactSameByNamesSpec)

/-- ITS FALSE NEIGHBOUR: 'it returns false'. Refute it at one input. -/
def fnExactSameByNamesWrong : ChangeSpec := { name := "fnExactSameByNames", fn := fun _ => fun
  | [d1, d2] => { results := [.lit (.bool false)], args := [d1, d2] }
  | _ => none }
def FnExactSameByNamesWrongFalsely : Prop := fnExactSameByNamesRow.holds Try.pinned (OpenSpec.ofChange fnExactSameByNamesWrong)

/-- 'laws.FnExactTrimGame': WHATEVER THE INPUT: true; the input reads as it did. -/
def fnExactTrimGameSpec : ChangeSpec := { name := "fnExactTrimGame", fn := fun _ => fun
  | [d] => { results := [.lit (.bool true)], args := [d] }
  | _ => none }
def fnExactTrimGameRow : OpenClaim := { program := "ytimfnhejiiagmaa", sum := "3660d9c7ef2bdc929648be332cda77a925d7ecf22f02be9570b4d37ab2c434a3", func := "loop.example/g01141/laws.FnExactTrimGame", spec := "fnExactTrimGame", unfollowed := true, recurses := true, plainKeys := false, apart := false }
def FnExactTrimGameSaid : Prop := fnExactTrimGameRow.holds Try.pinned (OpenSpec.ofChange fnExactTrimGameSpec)

/-- ITS FALSE NEIGHBOUR: 'it returns false'. Refute it at one input. -/
def fnExactTrimGameWrong : ChangeSpec := { name := "fnExactTrimGame", fn := fun _ => fun
  | [d] => { results := [.lit (.bool false)], args := [d] }
  | _ => none }
def FnExactTrimGameWrongFalsely : Prop := fnExactTrimGameRow.holds Try.pinned (OpenSpec.ofChange fnExactTrimGameWrong)

/-- 'laws.FnExactBothValue': WHATEVER THE INPUT: true; the input reads as it did. -/
def fnExactBothValueSpec : ChangeSpec := { name := "fnExactBothValue", fn := fun _ => fun
  | [d1, d2] => { results := [.lit (.bool true)], args := [d1, d2] }
  | _ => none }
def fnExactBothValueRow : OpenClaim := { program := "ytimfnhejiiagmaa", sum := "3660d9c7ef2bdc929648be332cda77a925d7ecf22f02be9570b4d37ab2c434a3", func := "loop.example/g01141/laws.FnExactBothValue", spec := "fnExactBothValue", plainKeys := false, apart := false }
def FnExactBothValueSaid : Prop := fnExactBothValueRow.holds Try.pinned (OpenSpec.ofChange fnExactBothValueSpec)

/-- ITS FALSE NEIGHBOUR: 'it returns false'. Refute it at one input. -/
def fnExactBothValueWrong : ChangeSpec := { name := "fnExactBothValue", fn := fun _ => fun
  | [d1, d2] => { results := [.lit (.bool false)], args := [d1, d2] }
  | _ => none }
def FnExactBothValueWrongFalsely : Prop := fnExactBothValueRow.holds Try.pinned (OpenSpec.ofChange fnExactBothValueWrong)

/-- 'laws.FnExactSignBias': WHATEVER THE INPUT: true; the input reads as it did. -/
def fnExactSignBiasSpec : ChangeSpec := { name := "fnExactSignBias", fn := fun _ => fun
  | [d] => { results := [.lit (.bool true)], args := [d] }
  | _ => none }
def fnExactSignBiasRow : OpenClaim := { program := "ytimfnhejiiagmaa", sum := "3660d9c7ef2bdc929648be332cda77a925d7ecf22f02be9570b4d37ab2c434a3", func := "loop.example/g01141/laws.FnExactSignBias", spec := "fnExactSignBias", unfollowed := true, recurses := true, plainKeys := false, apart := false }
def FnExactSignBiasSaid : Prop := fnExactSignBiasRow.holds Try.pinned (OpenSpec.ofChange fnExactSignBiasSpec)

/-- ITS FALSE NEIGHBOUR: 'it returns false'. Refute it at one input. -/
def fnExactSignBiasWrong : ChangeSpec := { name := "fnExactSignBias", fn := fun _ => fun
  | [d] => { results := [.lit (.bool false)], args := [d] }
  | _ => none }
def FnExactSignBiasWrongFalsely : Prop := fnExactSignBiasRow.holds Try.pinned (OpenSpec.ofChange fnExactSignBiasWrong)

/-- 'laws.FnExactBestSigns': WHATEVER THE INPUT: true; the input reads as it did. -/
def fnExactBestSignsSpec : ChangeSpec := { name := "fnExactBestSigns", fn := fun _ => fun
  | [d] => { results := [.lit (.bool true)], args := [d] }
  | _ => none }
def fnExactBestSignsRow : OpenClaim := { program := "ytimfnhejiiagmaa", sum := "3660d9c7ef2bdc929648be332cda77a925d7ecf22f02be9570b4d37ab2c434a3", func := "loop.example/g01141/laws.FnExactBestSigns", spec := "fnExactBestSigns", unfollowed := true, recurses := true, plainKeys := false, apart := false }
def FnExactBestSignsSaid : Prop := fnExactBestSignsRow.holds Try.pinned (OpenSpec.ofChange fnExactBestSignsSpec)

/-- ITS FALSE NEIGHBOUR: 'it returns false'. Refute it at one input. -/
def fnExactBestSignsWrong : ChangeSpec := { name := "fnExactBestSigns", fn := fun _ => fun
  | [d] => { results := [.lit (.bool false)], args := [d] }
  | _ => none }
def FnExactBestSignsWrongFalsely : Prop := fnExactBestSignsRow.holds Try.pinned (OpenSpec.ofChange fnExactBestSignsWrong)

/-- 'laws.FnExactJoinScenes': WHATEVER THE INPUT: true; the input reads as it did. -/
def fnExactJoinScenesSpec : ChangeSpec := { name := "fnExactJoinScenes", fn := fun _ => fun
  | [d1, d2] => { results := [.lit (.bool true)], args := [d1, d2] }
  | _ => none }
def fnExactJoinScenesRow : OpenClaim := { program := "ytimfnhejiiagmaa", sum := "3660d9c7ef2bdc929648be332cda77a925d7ecf22f02be9570b4d37ab2c434a3", func := "loop.example/g01141/laws.FnExactJoinScenes", spec := "fnExactJoinScenes", plainKeys := false, apart := false }
def FnExactJoinScenesSaid : Prop := fnExactJoinScenesRow.holds Try.pinned (OpenSpec.ofChange fnExactJoinScenesSpec)

/-- ITS FALSE NEIGHBOUR: 'it returns false'. Refute it at one input. -/
def fnExactJoinScenesWrong : ChangeSpec := { name := "fnExactJoinScenes", fn := fun _ => fun
  | [d1, d2] => { results := [.lit (.bool false)], args := [d1, d2] }
  | _ => none }
def FnExactJoinScenesWrongFalsely : Prop := fnExactJoinScenesRow.holds Try.pinned (OpenSpec.ofChange fnExactJoinScenesWrong)

/-- 'laws.FnExactNeedOf': WHATEVER THE INPUT: true; the input reads as it did. -/
def fnExactNeedOfSpec : ChangeSpec := { name := "fnExactNeedOf", fn := fun _ => fun
  | [d] => { results := [.lit (.bool true)], args := [d] }
  | _ => none }
def fnExactNeedOfRow : OpenClaim := { program := "ytimfnhejiiagmaa", sum := "3660d9c7ef2bdc929648be332cda77a925d7ecf22f02be9570b4d37ab2c434a3", func := "loop.example/g01141/laws.FnExactNeedOf", spec := "fnExactNeedOf", unfollowed := true, recurses := true, plainKeys := false, apart := false }
def FnExactNeedOfSaid : Prop := fnExactNeedOfRow.holds Try.pinned (OpenSpec.ofChange fnExactNeedOfSpec)

/-- ITS FALSE NEIGHBOUR: 'it returns false'. Refute it at one input. -/
def fnExactNeedOfWrong : ChangeSpec := { name := "fnExactNeedOf", fn := fun _ => fun
  | [d] => { results := [.lit (.bool false)], args := [d] }
  | _ => none }
def FnExactNeedOfWrongFalsely : Prop := fnExactNeedOfRow.holds Try.pinned (OpenSpec.ofChange fnExactNeedOfWrong)

/-- 'laws.FnExactFirstSplit': WHATEVER THE INPUT: true; the input reads as it did. -/
def fnExactFirstSplitSpec : ChangeSpec := { name := "fnExactFirstSplit", fn := fun _ => fun
  | [d] => { results := [.lit (.bool true)], args := [d] }
  | _ => none }
def fnExactFirstSplitRow : OpenClaim := { program := "ytimfnhejiiagmaa", sum := "3660d9c7ef2bdc929648be332cda77a925d7ecf22f02be9570b4d37ab2c434a3", func := "loop.example/g01141/laws.FnExactFirstSplit", spec := "fnExactFirstSplit", unfollowed := true, recurses := true, plainKeys := false, apart := false }
def FnExactFirstSplitSaid : Prop := fnExactFirstSplitRow.holds Try.pinned (OpenSpec.ofChange fnExactFirstSplitSpec)

/-- ITS FALSE NEIGHBOUR: 'it returns false'. Refute it at one input. -/
def fnExactFirstSplitWrong : ChangeSpec := { name := "fnExactFirstSplit", fn := fun _ => fun
  | [d] => { results := [.lit (.bool false)], args := [d] }
  | _ => none }
def FnExactFirstSplitWrongFalsely : Prop := fnExactFirstSplitRow.holds Try.pinned (OpenSpec.ofChange fnExactFirstSplitWrong)

/-- 'laws.FnExactBestTalk': WHATEVER THE INPUT: true; the input reads as it did. -/
def fnExactBestTalkSpec : ChangeSpec := { name := "fnExactBestTalk", fn := fun _ => fun
  | [d] => { results := [.lit (.bool true)], args := [d] }
  | _ => none }
def fnExactBestTalkRow : OpenClaim := { program := "ytimfnhejiiagmaa", sum := "3660d9c7ef2bdc929648be332cda77a925d7ecf22f02be9570b4d37ab2c434a3", func := "loop.example/g01141/laws.FnExactBestTalk", spec := "fnExactBestTalk", unfollowed := true, recurses := true, plainKeys := false, apart := false }
def FnExactBestTalkSaid : Prop := fnExactBestTalkRow.holds Try.pinned (OpenSpec.ofChange fnExactBestTalkSpec)

/-- ITS FALSE NEIGHBOUR: 'it returns false'. Refute it at one input. -/
def fnExactBestTalkWrong : ChangeSpec := { name := "fnExactBestTalk", fn := fun _ => fun
  | [d] => { results := [.lit (.bool false)], args := [d] }
  | _ => none }
def FnExactBestTalkWrongFalsely : Prop := fnExactBestTalkRow.holds Try.pinned (OpenSpec.ofChange fnExactBestTalkWrong)

/-- 'laws.FnExactCoverNumber': WHATEVER THE INPUT: true; the input reads as it did. -/
def fnExactCoverNumberSpec : ChangeSpec := { name := "fnExactCoverNumber", fn := fun _ => fun
  | [d1, d2] => { results := [.lit (.bool true)], args := [d1, d2] }
  | _ => none }
def fnExactCoverNumberRow : OpenClaim := { program := "ytimfnhejiiagmaa", sum := "3660d9c7ef2bdc929648be332cda77a925d7ecf22f02be9570b4d37ab2c434a3", func := "loop.example/g01141/laws.FnExactCoverNumber", spec := "fnExactCoverNumber", recurses := true, plainKeys := false, apart := false }
def FnExactCoverNumberSaid : Prop := fnExactCoverNumberRow.holds Try.pinned (OpenSpec.ofChange fnExactCoverNumberSpec)

/-- ITS FALSE NEIGHBOUR: 'it returns false'. Refute it at one input. -/
def fnExactCoverNumberWrong : ChangeSpec := { name := "fnExactCoverNumber", fn := fun _ => fun
  | [d1, d2] => { results := [.lit (.bool false)], args := [d1, d2] }
  | _ => none }
def FnExactCoverNumberWrongFalsely : Prop := fnExactCoverNumberRow.holds Try.pinned (OpenSpec.ofChange fnExactCoverNumberWrong)

/-- 'laws.FnExactTalkValue': WHATEVER THE INPUT: true; the input reads as it did. -/
def fnExactTalkValueSpec : ChangeSpec := { name := "fnExactTalkValue", fn := fun _ => fun
  | [d] => { results := [.lit (.bool true)], args := [d] }
  | _ => none }
def fnExactTalkValueRow : OpenClaim := { program := "ytimfnhejiiagmaa", sum := "3660d9c7ef2bdc929648be332cda77a925d7ecf22f02be9570b4d37ab2c434a3", func := "loop.example/g01141/laws.FnExactTalkValue", spec := "fnExactTalkValue", unfollowed := true, recurses := true, plainKeys := false, apart := false }
def FnExactTalkValueSaid : Prop := fnExactTalkValueRow.holds Try.pinned (OpenSpec.ofChange fnExactTalkValueSpec)

/-- ITS FALSE NEIGHBOUR: 'it returns false'. Refute it at one input. -/
def fnExactTalkValueWrong : ChangeSpec := { name := "fnExactTalkValue", fn := fun _ => fun
  | [d] => { results := [.lit (.bool false)], args := [d] }
  | _ => none }
def FnExactTalkValueWrongFalsely : Prop := fnExactTalkValueRow.holds Try.pinned (OpenSpec.ofChange fnExactTalkValueWrong)

/- THE SECOND FORM. 'bulk': how many values and letters a reading holds, each counted each time it is reached (what is shared counts as often as it is met; a slice's spare places count too). A statement '..UptoSaid' is the law's where the arguments, and the package variables that the reading takes, are together of bulk at most 1048576: NARROWER than '..Said'. Prove '..Said' where nothing that the law and all that it calls make is longer than what came in: it says more and counts as full. Else prove '..UptoSaid'. A law counts once. -/
mutual
def uptoBulk {H : Type} : DataW H → Nat
  | .lit (.string bytes) => bytes.length + 1
  | .lit _ => 1
  | .nil => 1
  | .ptr d => uptoBulk d + 1
  | .slice elems spare => uptoBulkAll elems + uptoBulkAll spare + 1
  | .agg parts => uptoBulkAll parts + 1
  | .iface _ d => uptoBulk d + 1
  | .map entries => uptoBulkEntries entries + 1
  | .held _ => 1
def uptoBulkAll {H : Type} : List (DataW H) → Nat
  | [] => 0
  | d :: r => uptoBulk d + uptoBulkAll r
def uptoBulkEntries {H : Type} : List (Lit × DataW H) → Nat
  | [] => 0
  | x :: r => uptoBulkEntry x + uptoBulkEntries r
def uptoBulkEntry {H : Type} : Lit × DataW H → Nat
  | (.string bytes, d) => bytes.length + uptoBulk d + 1
  | (_, d) => uptoBulk d + 1
 end
def uptoSmall : (H : Type) → List (DataW H) → Bool := fun _ ds => decide (uptoBulkAll ds ≤ 1048576)
def OpenSpec.upto (s : _root_.Go.ChangeSpec) : _root_.Go.OpenSpec := { _root_.Go.OpenSpec.ofChange s with cond := some uptoSmall }

/-- 'laws.FnExactFirstSum', WHERE WHAT IT READS IS OF BULK AT MOST 1048576: true; the input reads as it did. -/
def fnExactFirstSumUptoRow : OpenClaim := { program := "ytimfnhejiiagmaa", sum := "3660d9c7ef2bdc929648be332cda77a925d7ecf22f02be9570b4d37ab2c434a3", func := "loop.example/g01141/laws.FnExactFirstSum", spec := "fnExactFirstSum", plainKeys := false, apart := false, narrowed := true }
def FnExactFirstSumUptoSaid : Prop := fnExactFirstSumUptoRow.holds Try.pinned (OpenSpec.upto fnExactFirstSumSpec)

/-- 'laws.FnExactSameByNames', WHERE WHAT IT READS IS OF BULK AT MOST 1048576: true; the input reads as it did. -/
def fnExactSameByNamesUptoRow : OpenClaim := { program := "ytimfnhejiiagmaa", sum := "3660d9c7ef2bdc929648be332cda77a925d7ecf22f02be9570b4d37ab2c434a3", func := "loop.example/g01141/laws.FnExactSameByNames", spec := "fnExactSameByNames", inPlace := ["slices.overlaps[int]"], unfollowed := true, recurses := true, plainKeys := false, apart := false, narrowed := true }
def FnExactSameByNamesUptoSaid : Prop := fnExactSameByNamesUptoRow.holds Try.pinned (OpenSpec.upto fnExactSameByNamesSpec)

/-- 'laws.FnExactTrimGame', WHERE WHAT IT READS IS OF BULK AT MOST 1048576: true; the input reads as it did. -/
def fnExactTrimGameUptoRow : OpenClaim := { program := "ytimfnhejiiagmaa", sum := "3660d9c7ef2bdc929648be332cda77a925d7ecf22f02be9570b4d37ab2c434a3", func := "loop.example/g01141/laws.FnExactTrimGame", spec := "fnExactTrimGame", unfollowed := true, recurses := true, plainKeys := false, apart := false, narrowed := true }
def FnExactTrimGameUptoSaid : Prop := fnExactTrimGameUptoRow.holds Try.pinned (OpenSpec.upto fnExactTrimGameSpec)

/-- 'laws.FnExactBothValue', WHERE WHAT IT READS IS OF BULK AT MOST 1048576: true; the input reads as it did. -/
def fnExactBothValueUptoRow : OpenClaim := { program := "ytimfnhejiiagmaa", sum := "3660d9c7ef2bdc929648be332cda77a925d7ecf22f02be9570b4d37ab2c434a3", func := "loop.example/g01141/laws.FnExactBothValue", spec := "fnExactBothValue", plainKeys := false, apart := false, narrowed := true }
def FnExactBothValueUptoSaid : Prop := fnExactBothValueUptoRow.holds Try.pinned (OpenSpec.upto fnExactBothValueSpec)

/-- 'laws.FnExactSignBias', WHERE WHAT IT READS IS OF BULK AT MOST 1048576: true; the input reads as it did. -/
def fnExactSignBiasUptoRow : OpenClaim := { program := "ytimfnhejiiagmaa", sum := "3660d9c7ef2bdc929648be332cda77a925d7ecf22f02be9570b4d37ab2c434a3", func := "loop.example/g01141/laws.FnExactSignBias", spec := "fnExactSignBias", unfollowed := true, recurses := true, plainKeys := false, apart := false, narrowed := true }
def FnExactSignBiasUptoSaid : Prop := fnExactSignBiasUptoRow.holds Try.pinned (OpenSpec.upto fnExactSignBiasSpec)

/-- 'laws.FnExactBestSigns', WHERE WHAT IT READS IS OF BULK AT MOST 1048576: true; the input reads as it did. -/
def fnExactBestSignsUptoRow : OpenClaim := { program := "ytimfnhejiiagmaa", sum := "3660d9c7ef2bdc929648be332cda77a925d7ecf22f02be9570b4d37ab2c434a3", func := "loop.example/g01141/laws.FnExactBestSigns", spec := "fnExactBestSigns", unfollowed := true, recurses := true, plainKeys := false, apart := false, narrowed := true }
def FnExactBestSignsUptoSaid : Prop := fnExactBestSignsUptoRow.holds Try.pinned (OpenSpec.upto fnExactBestSignsSpec)

/-- 'laws.FnExactJoinScenes', WHERE WHAT IT READS IS OF BULK AT MOST 1048576: true; the input reads as it did. -/
def fnExactJoinScenesUptoRow : OpenClaim := { program := "ytimfnhejiiagmaa", sum := "3660d9c7ef2bdc929648be332cda77a925d7ecf22f02be9570b4d37ab2c434a3", func := "loop.example/g01141/laws.FnExactJoinScenes", spec := "fnExactJoinScenes", plainKeys := false, apart := false, narrowed := true }
def FnExactJoinScenesUptoSaid : Prop := fnExactJoinScenesUptoRow.holds Try.pinned (OpenSpec.upto fnExactJoinScenesSpec)

/-- 'laws.FnExactNeedOf', WHERE WHAT IT READS IS OF BULK AT MOST 1048576: true; the input reads as it did. -/
def fnExactNeedOfUptoRow : OpenClaim := { program := "ytimfnhejiiagmaa", sum := "3660d9c7ef2bdc929648be332cda77a925d7ecf22f02be9570b4d37ab2c434a3", func := "loop.example/g01141/laws.FnExactNeedOf", spec := "fnExactNeedOf", unfollowed := true, recurses := true, plainKeys := false, apart := false, narrowed := true }
def FnExactNeedOfUptoSaid : Prop := fnExactNeedOfUptoRow.holds Try.pinned (OpenSpec.upto fnExactNeedOfSpec)

/-- 'laws.FnExactFirstSplit', WHERE WHAT IT READS IS OF BULK AT MOST 1048576: true; the input reads as it did. -/
def fnExactFirstSplitUptoRow : OpenClaim := { program := "ytimfnhejiiagmaa", sum := "3660d9c7ef2bdc929648be332cda77a925d7ecf22f02be9570b4d37ab2c434a3", func := "loop.example/g01141/laws.FnExactFirstSplit", spec := "fnExactFirstSplit", unfollowed := true, recurses := true, plainKeys := false, apart := false, narrowed := true }
def FnExactFirstSplitUptoSaid : Prop := fnExactFirstSplitUptoRow.holds Try.pinned (OpenSpec.upto fnExactFirstSplitSpec)

/-- 'laws.FnExactBestTalk', WHERE WHAT IT READS IS OF BULK AT MOST 1048576: true; the input reads as it did. -/
def fnExactBestTalkUptoRow : OpenClaim := { program := "ytimfnhejiiagmaa", sum := "3660d9c7ef2bdc929648be332cda77a925d7ecf22f02be9570b4d37ab2c434a3", func := "loop.example/g01141/laws.FnExactBestTalk", spec := "fnExactBestTalk", unfollowed := true, recurses := true, plainKeys := false, apart := false, narrowed := true }
def FnExactBestTalkUptoSaid : Prop := fnExactBestTalkUptoRow.holds Try.pinned (OpenSpec.upto fnExactBestTalkSpec)

/-- 'laws.FnExactCoverNumber', WHERE WHAT IT READS IS OF BULK AT MOST 1048576: true; the input reads as it did. -/
def fnExactCoverNumberUptoRow : OpenClaim := { program := "ytimfnhejiiagmaa", sum := "3660d9c7ef2bdc929648be332cda77a925d7ecf22f02be9570b4d37ab2c434a3", func := "loop.example/g01141/laws.FnExactCoverNumber", spec := "fnExactCoverNumber", recurses := true, plainKeys := false, apart := false, narrowed := true }
def FnExactCoverNumberUptoSaid : Prop := fnExactCoverNumberUptoRow.holds Try.pinned (OpenSpec.upto fnExactCoverNumberSpec)

/-- 'laws.FnExactTalkValue', WHERE WHAT IT READS IS OF BULK AT MOST 1048576: true; the input reads as it did. -/
def fnExactTalkValueUptoRow : OpenClaim := { program := "ytimfnhejiiagmaa", sum := "3660d9c7ef2bdc929648be332cda77a925d7ecf22f02be9570b4d37ab2c434a3", func := "loop.example/g01141/laws.FnExactTalkValue", spec := "fnExactTalkValue", unfollowed := true, recurses := true, plainKeys := false, apart := false, narrowed := true }
def FnExactTalkValueUptoSaid : Prop := fnExactTalkValueUptoRow.holds Try.pinned (OpenSpec.upto fnExactTalkValueSpec)

end Rows
end Go.Proofs.Ytimfnhejiiagmaa
