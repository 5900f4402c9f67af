/-
  No cell of these rows narrows 'for every input' (looked for: loops, veiled, ifaces, maps, wideKeys, modest, calm, conditions, laid).
  DERIVED. THE GIVEN ROWS OF THIS SEAT. 12 by the template 'for every input the law returns true; each argument reads behind the call as it read before'; 0 by the template 'total and deterministic' (their statements: YtkikdecepdbbnabTotals.lean).
  GIVEN WITH THE SEED: the statements are not yours to turn. If you find one false, say at which input.
  Laid BY PROGRAM, IN A SANDBOX (cutbox-rows.mjs): the forced cells as the released guide's own fill.sh prints them over the translation 3a0f6add81e719c5… (all of the seat's roots in one cut). By AI agents, Wed Nov 11 2026. No macro, syntax, notation, axiom, sorry.
-/
import Derived.Test.YtkikdecepdbbnabChecked
import GoSem.Claim
import GoSem.ClaimJoined
import GoSem.ClaimMapViews
import Derived.JoinedTies
import Derived.KernelRfl
namespace Go.Proofs.Ytkikdecepdbbnab
/- THE CELL 'sum', in the pinned program and in every row, IS THE sha256 OF THE DUMP (.gsa) THAT YtkikdecepdbbnabProg.lean LOADS. Nothing in Lean hashes anything: it is a label: what it is worth is what the hold of that sum in a sandbox is worth. -/
noncomputable def Try.pinned : Pinned := { name := "ytkikdecepdbbnab", sum := "3a0f6add81e719c5d334f10cfbb4299f93873d154affcfa04f66eb288e7c50a1", checked := Try.checked }
namespace Rows
def none {H : Type} : Left H := { results := [], args := [] }

/-- 'laws.FnExactFirstSolution': WHATEVER THE INPUT: true; the input reads as it did. -/
def fnExactFirstSolutionSpec : ChangeSpec := { name := "fnExactFirstSolution", fn := fun _ => fun
  | [d] => { results := [.lit (.bool true)], args := [d] }
  | _ => none }
def fnExactFirstSolutionRow : OpenClaim := { program := "ytkikdecepdbbnab", sum := "3a0f6add81e719c5d334f10cfbb4299f93873d154affcfa04f66eb288e7c50a1", func := "loop.example/g01141/laws.FnExactFirstSolution", spec := "fnExactFirstSolution", unfollowed := true, recurses := true, apart := false }
def FnExactFirstSolutionSaid : Prop := fnExactFirstSolutionRow.holds Try.pinned (OpenSpec.ofChange fnExactFirstSolutionSpec)

/-- ITS FALSE NEIGHBOUR: 'it returns false'. Refute it at one input. -/
def fnExactFirstSolutionWrong : ChangeSpec := { name := "fnExactFirstSolution", fn := fun _ => fun
  | [d] => { results := [.lit (.bool false)], args := [d] }
  | _ => none }
def FnExactFirstSolutionWrongFalsely : Prop := fnExactFirstSolutionRow.holds Try.pinned (OpenSpec.ofChange fnExactFirstSolutionWrong)

/-- 'laws.FnExactCountSolutions': WHATEVER THE INPUT: true; the input reads as it did. -/
def fnExactCountSolutionsSpec : ChangeSpec := { name := "fnExactCountSolutions", fn := fun _ => fun
  | [d] => { results := [.lit (.bool true)], args := [d] }
  | _ => none }
def fnExactCountSolutionsRow : OpenClaim := { program := "ytkikdecepdbbnab", sum := "3a0f6add81e719c5d334f10cfbb4299f93873d154affcfa04f66eb288e7c50a1", func := "loop.example/g01141/laws.FnExactCountSolutions", spec := "fnExactCountSolutions", unfollowed := true, recurses := true, apart := false }
def FnExactCountSolutionsSaid : Prop := fnExactCountSolutionsRow.holds Try.pinned (OpenSpec.ofChange fnExactCountSolutionsSpec)

/-- ITS FALSE NEIGHBOUR: 'it returns false'. Refute it at one input. -/
def fnExactCountSolutionsWrong : ChangeSpec := { name := "fnExactCountSolutions", fn := fun _ => fun
  | [d] => { results := [.lit (.bool false)], args := [d] }
  | _ => none }
def FnExactCountSolutionsWrongFalsely : Prop := fnExactCountSolutionsRow.holds Try.pinned (OpenSpec.ofChange fnExactCountSolutionsWrong)

/-- 'laws.FnExactMostKept': WHATEVER THE INPUT: true; the input reads as it did. -/
def fnExactMostKeptSpec : ChangeSpec := { name := "fnExactMostKept", fn := fun _ => fun
  | [d] => { results := [.lit (.bool true)], args := [d] }
  | _ => none }
def fnExactMostKeptRow : OpenClaim := { program := "ytkikdecepdbbnab", sum := "3a0f6add81e719c5d334f10cfbb4299f93873d154affcfa04f66eb288e7c50a1", func := "loop.example/g01141/laws.FnExactMostKept", spec := "fnExactMostKept", unfollowed := true, recurses := true, apart := false }
def FnExactMostKeptSaid : Prop := fnExactMostKeptRow.holds Try.pinned (OpenSpec.ofChange fnExactMostKeptSpec)

/-- ITS FALSE NEIGHBOUR: 'it returns false'. Refute it at one input. -/
def fnExactMostKeptWrong : ChangeSpec := { name := "fnExactMostKept", fn := fun _ => fun
  | [d] => { results := [.lit (.bool false)], args := [d] }
  | _ => none }
def FnExactMostKeptWrongFalsely : Prop := fnExactMostKeptRow.holds Try.pinned (OpenSpec.ofChange fnExactMostKeptWrong)

/-- 'laws.FnExactFirstPick': WHATEVER THE INPUT: true; the input reads as it did. -/
def fnExactFirstPickSpec : ChangeSpec := { name := "fnExactFirstPick", fn := fun _ => fun
  | [d] => { results := [.lit (.bool true)], args := [d] }
  | _ => none }
def fnExactFirstPickRow : OpenClaim := { program := "ytkikdecepdbbnab", sum := "3a0f6add81e719c5d334f10cfbb4299f93873d154affcfa04f66eb288e7c50a1", func := "loop.example/g01141/laws.FnExactFirstPick", spec := "fnExactFirstPick", unfollowed := true, recurses := true, apart := false }
def FnExactFirstPickSaid : Prop := fnExactFirstPickRow.holds Try.pinned (OpenSpec.ofChange fnExactFirstPickSpec)

/-- ITS FALSE NEIGHBOUR: 'it returns false'. Refute it at one input. -/
def fnExactFirstPickWrong : ChangeSpec := { name := "fnExactFirstPick", fn := fun _ => fun
  | [d] => { results := [.lit (.bool false)], args := [d] }
  | _ => none }
def FnExactFirstPickWrongFalsely : Prop := fnExactFirstPickRow.holds Try.pinned (OpenSpec.ofChange fnExactFirstPickWrong)

/-- 'laws.FnExactCountPicks': WHATEVER THE INPUT: true; the input reads as it did. -/
def fnExactCountPicksSpec : ChangeSpec := { name := "fnExactCountPicks", fn := fun _ => fun
  | [d] => { results := [.lit (.bool true)], args := [d] }
  | _ => none }
def fnExactCountPicksRow : OpenClaim := { program := "ytkikdecepdbbnab", sum := "3a0f6add81e719c5d334f10cfbb4299f93873d154affcfa04f66eb288e7c50a1", func := "loop.example/g01141/laws.FnExactCountPicks", spec := "fnExactCountPicks", unfollowed := true, recurses := true, apart := false }
def FnExactCountPicksSaid : Prop := fnExactCountPicksRow.holds Try.pinned (OpenSpec.ofChange fnExactCountPicksSpec)

/-- ITS FALSE NEIGHBOUR: 'it returns false'. Refute it at one input. -/
def fnExactCountPicksWrong : ChangeSpec := { name := "fnExactCountPicks", fn := fun _ => fun
  | [d] => { results := [.lit (.bool false)], args := [d] }
  | _ => none }
def FnExactCountPicksWrongFalsely : Prop := fnExactCountPicksRow.holds Try.pinned (OpenSpec.ofChange fnExactCountPicksWrong)

/-- 'laws.FnExactNoisySum': WHATEVER THE INPUT: true; the input reads as it did. -/
def fnExactNoisySumSpec : ChangeSpec := { name := "fnExactNoisySum", fn := fun _ => fun
  | [d1, d2, d3] => { results := [.lit (.bool true)], args := [d1, d2, d3] }
  | _ => none }
def fnExactNoisySumRow : OpenClaim := { program := "ytkikdecepdbbnab", sum := "3a0f6add81e719c5d334f10cfbb4299f93873d154affcfa04f66eb288e7c50a1", func := "loop.example/g01141/laws.FnExactNoisySum", spec := "fnExactNoisySum", unfollowed := true, recurses := true, apart := false }
def FnExactNoisySumSaid : Prop := fnExactNoisySumRow.holds Try.pinned (OpenSpec.ofChange fnExactNoisySumSpec)

/-- ITS FALSE NEIGHBOUR: 'it returns false'. Refute it at one input. -/
def fnExactNoisySumWrong : ChangeSpec := { name := "fnExactNoisySum", fn := fun _ => fun
  | [d1, d2, d3] => { results := [.lit (.bool false)], args := [d1, d2, d3] }
  | _ => none }
def FnExactNoisySumWrongFalsely : Prop := fnExactNoisySumRow.holds Try.pinned (OpenSpec.ofChange fnExactNoisySumWrong)

/-- 'laws.FnExactMixtureBox': WHATEVER THE INPUT: true; the input reads as it did. -/
def fnExactMixtureBoxSpec : ChangeSpec := { name := "fnExactMixtureBox", fn := fun _ => fun
  | [d1, d2, d3] => { results := [.lit (.bool true)], args := [d1, d2, d3] }
  | _ => none }
def fnExactMixtureBoxRow : OpenClaim := { program := "ytkikdecepdbbnab", sum := "3a0f6add81e719c5d334f10cfbb4299f93873d154affcfa04f66eb288e7c50a1", func := "loop.example/g01141/laws.FnExactMixtureBox", spec := "fnExactMixtureBox", unfollowed := true, recurses := true, apart := false }
def FnExactMixtureBoxSaid : Prop := fnExactMixtureBoxRow.holds Try.pinned (OpenSpec.ofChange fnExactMixtureBoxSpec)

/-- ITS FALSE NEIGHBOUR: 'it returns false'. Refute it at one input. -/
def fnExactMixtureBoxWrong : ChangeSpec := { name := "fnExactMixtureBox", fn := fun _ => fun
  | [d1, d2, d3] => { results := [.lit (.bool false)], args := [d1, d2, d3] }
  | _ => none }
def FnExactMixtureBoxWrongFalsely : Prop := fnExactMixtureBoxRow.holds Try.pinned (OpenSpec.ofChange fnExactMixtureBoxWrong)

/-- 'laws.FnExactSignBias': WHATEVER THE INPUT: true; the input reads as it did. -/
def fnExactSignBiasSpec : ChangeSpec := { name := "fnExactSignBias", fn := fun _ => fun
  | [d] => { results := [.lit (.bool true)], args := [d] }
  | _ => none }
def fnExactSignBiasRow : OpenClaim := { program := "ytkikdecepdbbnab", sum := "3a0f6add81e719c5d334f10cfbb4299f93873d154affcfa04f66eb288e7c50a1", func := "loop.example/g01141/laws.FnExactSignBias", spec := "fnExactSignBias", unfollowed := true, recurses := true, apart := false }
def FnExactSignBiasSaid : Prop := fnExactSignBiasRow.holds Try.pinned (OpenSpec.ofChange fnExactSignBiasSpec)

/-- ITS FALSE NEIGHBOUR: 'it returns false'. Refute it at one input. -/
def fnExactSignBiasWrong : ChangeSpec := { name := "fnExactSignBias", fn := fun _ => fun
  | [d] => { results := [.lit (.bool false)], args := [d] }
  | _ => none }
def FnExactSignBiasWrongFalsely : Prop := fnExactSignBiasRow.holds Try.pinned (OpenSpec.ofChange fnExactSignBiasWrong)

/-- 'laws.FnExactBestSigns': WHATEVER THE INPUT: true; the input reads as it did. -/
def fnExactBestSignsSpec : ChangeSpec := { name := "fnExactBestSigns", fn := fun _ => fun
  | [d] => { results := [.lit (.bool true)], args := [d] }
  | _ => none }
def fnExactBestSignsRow : OpenClaim := { program := "ytkikdecepdbbnab", sum := "3a0f6add81e719c5d334f10cfbb4299f93873d154affcfa04f66eb288e7c50a1", func := "loop.example/g01141/laws.FnExactBestSigns", spec := "fnExactBestSigns", unfollowed := true, recurses := true, apart := false }
def FnExactBestSignsSaid : Prop := fnExactBestSignsRow.holds Try.pinned (OpenSpec.ofChange fnExactBestSignsSpec)

/-- ITS FALSE NEIGHBOUR: 'it returns false'. Refute it at one input. -/
def fnExactBestSignsWrong : ChangeSpec := { name := "fnExactBestSigns", fn := fun _ => fun
  | [d] => { results := [.lit (.bool false)], args := [d] }
  | _ => none }
def FnExactBestSignsWrongFalsely : Prop := fnExactBestSignsRow.holds Try.pinned (OpenSpec.ofChange fnExactBestSignsWrong)

/-- 'laws.FnExactCutOf': WHATEVER THE INPUT: true; the input reads as it did. -/
def fnExactCutOfSpec : ChangeSpec := { name := "fnExactCutOf", fn := fun _ => fun
  | [d] => { results := [.lit (.bool true)], args := [d] }
  | _ => none }
def fnExactCutOfRow : OpenClaim := { program := "ytkikdecepdbbnab", sum := "3a0f6add81e719c5d334f10cfbb4299f93873d154affcfa04f66eb288e7c50a1", func := "loop.example/g01141/laws.FnExactCutOf", spec := "fnExactCutOf", unfollowed := true, recurses := true, apart := false }
def FnExactCutOfSaid : Prop := fnExactCutOfRow.holds Try.pinned (OpenSpec.ofChange fnExactCutOfSpec)

/-- ITS FALSE NEIGHBOUR: 'it returns false'. Refute it at one input. -/
def fnExactCutOfWrong : ChangeSpec := { name := "fnExactCutOf", fn := fun _ => fun
  | [d] => { results := [.lit (.bool false)], args := [d] }
  | _ => none }
def FnExactCutOfWrongFalsely : Prop := fnExactCutOfRow.holds Try.pinned (OpenSpec.ofChange fnExactCutOfWrong)

/-- 'laws.FnExactFirstSwitched': WHATEVER THE INPUT: true; the input reads as it did. -/
def fnExactFirstSwitchedSpec : ChangeSpec := { name := "fnExactFirstSwitched", fn := fun _ => fun
  | [d] => { results := [.lit (.bool true)], args := [d] }
  | _ => none }
def fnExactFirstSwitchedRow : OpenClaim := { program := "ytkikdecepdbbnab", sum := "3a0f6add81e719c5d334f10cfbb4299f93873d154affcfa04f66eb288e7c50a1", func := "loop.example/g01141/laws.FnExactFirstSwitched", spec := "fnExactFirstSwitched", unfollowed := true, recurses := true, apart := false }
def FnExactFirstSwitchedSaid : Prop := fnExactFirstSwitchedRow.holds Try.pinned (OpenSpec.ofChange fnExactFirstSwitchedSpec)

/-- ITS FALSE NEIGHBOUR: 'it returns false'. Refute it at one input. -/
def fnExactFirstSwitchedWrong : ChangeSpec := { name := "fnExactFirstSwitched", fn := fun _ => fun
  | [d] => { results := [.lit (.bool false)], args := [d] }
  | _ => none }
def FnExactFirstSwitchedWrongFalsely : Prop := fnExactFirstSwitchedRow.holds Try.pinned (OpenSpec.ofChange fnExactFirstSwitchedWrong)

/-- 'laws.FnExactAreSwitched': WHATEVER THE INPUT: true; the input reads as it did. -/
def fnExactAreSwitchedSpec : ChangeSpec := { name := "fnExactAreSwitched", fn := fun _ => fun
  | [d1, d2] => { results := [.lit (.bool true)], args := [d1, d2] }
  | _ => none }
def fnExactAreSwitchedRow : OpenClaim := { program := "ytkikdecepdbbnab", sum := "3a0f6add81e719c5d334f10cfbb4299f93873d154affcfa04f66eb288e7c50a1", func := "loop.example/g01141/laws.FnExactAreSwitched", spec := "fnExactAreSwitched", unfollowed := true, recurses := true, apart := false }
def FnExactAreSwitchedSaid : Prop := fnExactAreSwitchedRow.holds Try.pinned (OpenSpec.ofChange fnExactAreSwitchedSpec)

/-- ITS FALSE NEIGHBOUR: 'it returns false'. Refute it at one input. -/
def fnExactAreSwitchedWrong : ChangeSpec := { name := "fnExactAreSwitched", fn := fun _ => fun
  | [d1, d2] => { results := [.lit (.bool false)], args := [d1, d2] }
  | _ => none }
def FnExactAreSwitchedWrongFalsely : Prop := fnExactAreSwitchedRow.holds Try.pinned (OpenSpec.ofChange fnExactAreSwitchedWrong)

/- THE SECOND FORM. 'bulk': how many values and letters a reading holds, each counted each time it is reached (what is shared counts as often as it is met; a slice's spare places count too). A statement '..UptoSaid' is the law's where the arguments, and the package variables that the reading takes, are together of bulk at most 1048576: NARROWER than '..Said'. Prove '..Said' where nothing that the law and all that it calls make is longer than what came in: it says more and counts as full. Else prove '..UptoSaid'. A law counts once. -/
mutual
def uptoBulk {H : Type} : DataW H → Nat
  | .lit (.string bytes) => bytes.length + 1
  | .lit _ => 1
  | .nil => 1
  | .ptr d => uptoBulk d + 1
  | .slice elems spare => uptoBulkAll elems + uptoBulkAll spare + 1
  | .agg parts => uptoBulkAll parts + 1
  | .iface _ d => uptoBulk d + 1
  | .map entries => uptoBulkEntries entries + 1
  | .held _ => 1
def uptoBulkAll {H : Type} : List (DataW H) → Nat
  | [] => 0
  | d :: r => uptoBulk d + uptoBulkAll r
def uptoBulkEntries {H : Type} : List (Lit × DataW H) → Nat
  | [] => 0
  | x :: r => uptoBulkEntry x + uptoBulkEntries r
def uptoBulkEntry {H : Type} : Lit × DataW H → Nat
  | (.string bytes, d) => bytes.length + uptoBulk d + 1
  | (_, d) => uptoBulk d + 1
 end
def uptoSmall : (H : Type) → List (DataW H) → Bool := fun _ ds => decide (uptoBulkAll ds ≤ 1048576)
def OpenSpec.upto (s : _root_.Go.ChangeSpec) : _root_.Go.OpenSpec := { _root_.Go.OpenSpec.ofChange s with cond := some uptoSmall }

/-- 'laws.FnExactFirstSolution', WHERE WHAT IT READS IS OF BULK AT MOST 1048576: true; the input reads as it did. -/
def fnExactFirstSolutionUptoRow : OpenClaim := { program := "ytkikdecepdbbnab", sum := "3a0f6add81e719c5d334f10cfbb4299f93873d154affcfa04f66eb288e7c50a1", func := "loop.example/g01141/laws.FnExactFirstSolution", spec := "fnExactFirstSolution", unfollowed := true, recurses := true, apart := false, narrowed := true }
def FnExactFirstSolutionUptoSaid : Prop := fnExactFirstSolutionUptoRow.holds Try.pinned (OpenSpec.upto fnExactFirstSolutionSpec)

/-- 'laws.FnExactCountSolutions', WHERE WHAT IT READS IS OF BULK AT MOST 1048576: true; the input reads as it did. -/
def fnExactCountSolutionsUptoRow : OpenClaim := { program := "ytkikdecepdbbnab", sum := "3a0f6add81e719c5d334f10cfbb4299f93873d154affcfa04f66eb288e7c50a1", func := "loop.example/g01141/laws.FnExactCountSolutions", spec := "fnExactCountSolutions", unfollowed := true, recurses := true, apart := false, narrowed := true }
def FnExactCountSolutionsUptoSaid : Prop := fnExactCountSolutionsUptoRow.holds Try.pinned (OpenSpec.upto fnExactCountSolutionsSpec)

/-- 'laws.FnExactMostKept', WHERE WHAT IT READS IS OF BULK AT MOST 1048576: true; the input reads as it did. -/
def fnExactMostKeptUptoRow : OpenClaim := { program := "ytkikdecepdbbnab", sum := "3a0f6add81e719c5d334f10cfbb4299f93873d154affcfa04f66eb288e7c50a1", func := "loop.example/g01141/laws.FnExactMostKept", spec := "fnExactMostKept", unfollowed := true, recurses := true, apart := false, narrowed := true }
def FnExactMostKeptUptoSaid : Prop := fnExactMostKeptUptoRow.holds Try.pinned (OpenSpec.upto fnExactMostKeptSpec)

/-- 'laws.FnExactFirstPick', WHERE WHAT IT READS IS OF BULK AT MOST 1048576: true; the input reads as it did. -/
def fnExactFirstPickUptoRow : OpenClaim := { program := "ytkikdecepdbbnab", sum := "3a0f6add81e719c5d334f10cfbb4299f93873d154affcfa04f66eb288e7c50a1", func := "loop.example/g01141/laws.FnExactFirstPick", spec := "fnExactFirstPick", unfollowed := true, recurses := true, apart := false, narrowed := true }
def FnExactFirstPickUptoSaid : Prop := fnExactFirstPickUptoRow.holds Try.pinned (OpenSpec.upto fnExactFirstPickSpec)

/-- 'laws.FnExactCountPicks', WHERE WHAT IT READS IS OF BULK AT MOST 1048576: true; the input reads as it did. -/
def fnExactCountPicksUptoRow : OpenClaim := { program := "ytkikdecepdbbnab", sum := "3a0f6add81e719c5d334f10cfbb4299f93873d154affcfa04f66eb288e7c50a1", func := "loop.example/g01141/laws.FnExactCountPicks", spec := "fnExactCountPicks", unfollowed := true, recurses := true, apart := false, narrowed := true }
def FnExactCountPicksUptoSaid : Prop := fnExactCountPicksUptoRow.holds Try.pinned (OpenSpec.upto fnExactCountPicksSpec)

/-- 'laws.FnExactNoisySum', WHERE WHAT IT READS IS OF BULK AT MOST 1048576: true; the input reads as it did. -/
def fnExactNoisySumUptoRow : OpenClaim := { program := "ytkikdecepdbbnab", sum := "3a0f6add81e719c5d334f10cfbb4299f93873d154affcfa04f66eb288e7c50a1", func := "loop.example/g01141/laws.FnExactNoisySum", spec := "fnExactNoisySum", unfollowed := true, recurses := true, apart := false, narrowed := true }
def FnExactNoisySumUptoSaid : Prop := fnExactNoisySumUptoRow.holds Try.pinned (OpenSpec.upto fnExactNoisySumSpec)

/-- 'laws.FnExactMixtureBox', WHERE WHAT IT READS IS OF BULK AT MOST 1048576: true; the input reads as it did. -/
def fnExactMixtureBoxUptoRow : OpenClaim := { program := "ytkikdecepdbbnab", sum := "3a0f6add81e719c5d334f10cfbb4299f93873d154affcfa04f66eb288e7c50a1", func := "loop.example/g01141/laws.FnExactMixtureBox", spec := "fnExactMixtureBox", unfollowed := true, recurses := true, apart := false, narrowed := true }
def FnExactMixtureBoxUptoSaid : Prop := fnExactMixtureBoxUptoRow.holds Try.pinned (OpenSpec.upto fnExactMixtureBoxSpec)

/-- 'laws.FnExactSignBias', WHERE WHAT IT READS IS OF BULK AT MOST 1048576: true; the input reads as it did. -/
def fnExactSignBiasUptoRow : OpenClaim := { program := "ytkikdecepdbbnab", sum := "3a0f6add81e719c5d334f10cfbb4299f93873d154affcfa04f66eb288e7c50a1", func := "loop.example/g01141/laws.FnExactSignBias", spec := "fnExactSignBias", unfollowed := true, recurses := true, apart := false, narrowed := true }
def FnExactSignBiasUptoSaid : Prop := fnExactSignBiasUptoRow.holds Try.pinned (OpenSpec.upto fnExactSignBiasSpec)

/-- 'laws.FnExactBestSigns', WHERE WHAT IT READS IS OF BULK AT MOST 1048576: true; the input reads as it did. -/
def fnExactBestSignsUptoRow : OpenClaim := { program := "ytkikdecepdbbnab", sum := "3a0f6add81e719c5d334f10cfbb4299f93873d154affcfa04f66eb288e7c50a1", func := "loop.example/g01141/laws.FnExactBestSigns", spec := "fnExactBestSigns", unfollowed := true, recurses := true, apart := false, narrowed := true }
def FnExactBestSignsUptoSaid : Prop := fnExactBestSignsUptoRow.holds Try.pinned (OpenSpec.upto fnExactBestSignsSpec)

/-- 'laws.FnExactCutOf', WHERE WHAT IT READS IS OF BULK AT MOST 1048576: true; the input reads as it did. -/
def fnExactCutOfUptoRow : OpenClaim := { program := "ytkikdecepdbbnab", sum := "3a0f6add81e719c5d334f10cfbb4299f93873d154affcfa04f66eb288e7c50a1", func := "loop.example/g01141/laws.FnExactCutOf", spec := "fnExactCutOf", unfollowed := true, recurses := true, apart := false, narrowed := true }
def FnExactCutOfUptoSaid : Prop := fnExactCutOfUptoRow.holds Try.pinned (OpenSpec.upto fnExactCutOfSpec)

/-- 'laws.FnExactFirstSwitched', WHERE WHAT IT READS IS OF BULK AT MOST 1048576: true; the input reads as it did. -/
def fnExactFirstSwitchedUptoRow : OpenClaim := { program := "ytkikdecepdbbnab", sum := "3a0f6add81e719c5d334f10cfbb4299f93873d154affcfa04f66eb288e7c50a1", func := "loop.example/g01141/laws.FnExactFirstSwitched", spec := "fnExactFirstSwitched", unfollowed := true, recurses := true, apart := false, narrowed := true }
def FnExactFirstSwitchedUptoSaid : Prop := fnExactFirstSwitchedUptoRow.holds Try.pinned (OpenSpec.upto fnExactFirstSwitchedSpec)

/-- 'laws.FnExactAreSwitched', WHERE WHAT IT READS IS OF BULK AT MOST 1048576: true; the input reads as it did. -/
def fnExactAreSwitchedUptoRow : OpenClaim := { program := "ytkikdecepdbbnab", sum := "3a0f6add81e719c5d334f10cfbb4299f93873d154affcfa04f66eb288e7c50a1", func := "loop.example/g01141/laws.FnExactAreSwitched", spec := "fnExactAreSwitched", unfollowed := true, recurses := true, apart := false, narrowed := true }
def FnExactAreSwitchedUptoSaid : Prop := fnExactAreSwitchedUptoRow.holds Try.pinned (OpenSpec.upto fnExactAreSwitchedSpec)

end Rows
end Go.Proofs.Ytkikdecepdbbnab
