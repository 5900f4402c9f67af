/-
  No cell of these rows narrows 'for every input' (looked for: loops, veiled, ifaces, maps, wideKeys, modest, calm, conditions, laid).
  DERIVED. THE GIVEN ROWS OF THIS SEAT. 12 by the template 'for every input the law returns true; each argument reads behind the call as it read before'; 0 by the template 'total and deterministic' (their statements: YtkajebhagkbcaacTotals.lean).
  GIVEN WITH THE SEED: the statements are not yours to turn. If you find one false, say at which input.
  Laid BY PROGRAM, IN A SANDBOX (cutbox-rows.mjs): the forced cells as the released guide's own fill.sh prints them over the translation a17523e10b395f3c… (all of the seat's roots in one cut). By AI agents, Wed Nov 11 2026. No macro, syntax, notation, axiom, sorry.
-/
import Derived.Test.YtkajebhagkbcaacChecked
import GoSem.Claim
import GoSem.ClaimJoined
import GoSem.ClaimMapViews
import Derived.JoinedTies
import Derived.KernelRfl
namespace Go.Proofs.Ytkajebhagkbcaac
/- THE CELL 'sum', in the pinned program and in every row, IS THE sha256 OF THE DUMP (.gsa) THAT YtkajebhagkbcaacProg.lean LOADS. Nothing in Lean hashes anything: it is a label: what it is worth is what the hold of that sum in a sandbox is worth. -/
noncomputable def Try.pinned : Pinned := { name := "ytkajebhagkbcaac", sum := "a17523e10b395f3c11bf595ae28b8687f6fea280239f3a9a97036fdec3ee05e5", checked := Try.checked }
namespace Rows
def none {H : Type} : Left H := { results := [], args := [] }

/-- 'laws.FnExactIsGame': WHATEVER THE INPUT: true; the input reads as it did. -/
def fnExactIsGameSpec : ChangeSpec := { name := "fnExactIsGame", fn := fun _ => fun
  | [d] => { results := [.lit (.bool true)], args := [d] }
  | _ => none }
def fnExactIsGameRow : OpenClaim := { program := "ytkajebhagkbcaac", sum := "a17523e10b395f3c11bf595ae28b8687f6fea280239f3a9a97036fdec3ee05e5", func := "loop.example/g01141/laws.FnExactIsGame", spec := "fnExactIsGame", apart := false }
def FnExactIsGameSaid : Prop := fnExactIsGameRow.holds Try.pinned (OpenSpec.ofChange fnExactIsGameSpec)

/-- ITS FALSE NEIGHBOUR: 'it returns false'. Refute it at one input. -/
def fnExactIsGameWrong : ChangeSpec := { name := "fnExactIsGame", fn := fun _ => fun
  | [d] => { results := [.lit (.bool false)], args := [d] }
  | _ => none }
def FnExactIsGameWrongFalsely : Prop := fnExactIsGameRow.holds Try.pinned (OpenSpec.ofChange fnExactIsGameWrong)

/-- 'laws.FnExactTotalWeight': WHATEVER THE INPUT: true; the input reads as it did. -/
def fnExactTotalWeightSpec : ChangeSpec := { name := "fnExactTotalWeight", fn := fun _ => fun
  | [d] => { results := [.lit (.bool true)], args := [d] }
  | _ => none }
def fnExactTotalWeightRow : OpenClaim := { program := "ytkajebhagkbcaac", sum := "a17523e10b395f3c11bf595ae28b8687f6fea280239f3a9a97036fdec3ee05e5", func := "loop.example/g01141/laws.FnExactTotalWeight", spec := "fnExactTotalWeight", apart := false }
def FnExactTotalWeightSaid : Prop := fnExactTotalWeightRow.holds Try.pinned (OpenSpec.ofChange fnExactTotalWeightSpec)

/-- ITS FALSE NEIGHBOUR: 'it returns false'. Refute it at one input. -/
def fnExactTotalWeightWrong : ChangeSpec := { name := "fnExactTotalWeight", fn := fun _ => fun
  | [d] => { results := [.lit (.bool false)], args := [d] }
  | _ => none }
def FnExactTotalWeightWrongFalsely : Prop := fnExactTotalWeightRow.holds Try.pinned (OpenSpec.ofChange fnExactTotalWeightWrong)

/-- 'laws.FnExactPlayScore': WHATEVER THE INPUT: true; the input reads as it did. -/
def fnExactPlayScoreSpec : ChangeSpec := { name := "fnExactPlayScore", fn := fun _ => fun
  | [d1, d2] => { results := [.lit (.bool true)], args := [d1, d2] }
  | _ => none }
def fnExactPlayScoreRow : OpenClaim := { program := "ytkajebhagkbcaac", sum := "a17523e10b395f3c11bf595ae28b8687f6fea280239f3a9a97036fdec3ee05e5", func := "loop.example/g01141/laws.FnExactPlayScore", spec := "fnExactPlayScore", apart := false }
def FnExactPlayScoreSaid : Prop := fnExactPlayScoreRow.holds Try.pinned (OpenSpec.ofChange fnExactPlayScoreSpec)

/-- ITS FALSE NEIGHBOUR: 'it returns false'. Refute it at one input. -/
def fnExactPlayScoreWrong : ChangeSpec := { name := "fnExactPlayScore", fn := fun _ => fun
  | [d1, d2] => { results := [.lit (.bool false)], args := [d1, d2] }
  | _ => none }
def FnExactPlayScoreWrongFalsely : Prop := fnExactPlayScoreRow.holds Try.pinned (OpenSpec.ofChange fnExactPlayScoreWrong)

/-- 'laws.FnExactLostPairs': WHATEVER THE INPUT: true; the input reads as it did. -/
def fnExactLostPairsSpec : ChangeSpec := { name := "fnExactLostPairs", fn := fun _ => fun
  | [d1, d2] => { results := [.lit (.bool true)], args := [d1, d2] }
  | _ => none }
def fnExactLostPairsRow : OpenClaim := { program := "ytkajebhagkbcaac", sum := "a17523e10b395f3c11bf595ae28b8687f6fea280239f3a9a97036fdec3ee05e5", func := "loop.example/g01141/laws.FnExactLostPairs", spec := "fnExactLostPairs", apart := false }
def FnExactLostPairsSaid : Prop := fnExactLostPairsRow.holds Try.pinned (OpenSpec.ofChange fnExactLostPairsSpec)

/-- ITS FALSE NEIGHBOUR: 'it returns false'. Refute it at one input. -/
def fnExactLostPairsWrong : ChangeSpec := { name := "fnExactLostPairs", fn := fun _ => fun
  | [d1, d2] => { results := [.lit (.bool false)], args := [d1, d2] }
  | _ => none }
def FnExactLostPairsWrongFalsely : Prop := fnExactLostPairsRow.holds Try.pinned (OpenSpec.ofChange fnExactLostPairsWrong)

/-- 'laws.FnExactBestPlay': WHATEVER THE INPUT: true; the input reads as it did. -/
def fnExactBestPlaySpec : ChangeSpec := { name := "fnExactBestPlay", fn := fun _ => fun
  | [d] => { results := [.lit (.bool true)], args := [d] }
  | _ => none }
def fnExactBestPlayRow : OpenClaim := { program := "ytkajebhagkbcaac", sum := "a17523e10b395f3c11bf595ae28b8687f6fea280239f3a9a97036fdec3ee05e5", func := "loop.example/g01141/laws.FnExactBestPlay", spec := "fnExactBestPlay", apart := false }
def FnExactBestPlaySaid : Prop := fnExactBestPlayRow.holds Try.pinned (OpenSpec.ofChange fnExactBestPlaySpec)

/-- ITS FALSE NEIGHBOUR: 'it returns false'. Refute it at one input. -/
def fnExactBestPlayWrong : ChangeSpec := { name := "fnExactBestPlay", fn := fun _ => fun
  | [d] => { results := [.lit (.bool false)], args := [d] }
  | _ => none }
def FnExactBestPlayWrongFalsely : Prop := fnExactBestPlayRow.holds Try.pinned (OpenSpec.ofChange fnExactBestPlayWrong)

/-- 'laws.FnExactBestReply': WHATEVER THE INPUT: true; the input reads as it did. -/
def fnExactBestReplySpec : ChangeSpec := { name := "fnExactBestReply", fn := fun _ => fun
  | [d1, d2] => { results := [.lit (.bool true)], args := [d1, d2] }
  | _ => none }
def fnExactBestReplyRow : OpenClaim := { program := "ytkajebhagkbcaac", sum := "a17523e10b395f3c11bf595ae28b8687f6fea280239f3a9a97036fdec3ee05e5", func := "loop.example/g01141/laws.FnExactBestReply", spec := "fnExactBestReply", apart := false }
def FnExactBestReplySaid : Prop := fnExactBestReplyRow.holds Try.pinned (OpenSpec.ofChange fnExactBestReplySpec)

/-- ITS FALSE NEIGHBOUR: 'it returns false'. Refute it at one input. -/
def fnExactBestReplyWrong : ChangeSpec := { name := "fnExactBestReply", fn := fun _ => fun
  | [d1, d2] => { results := [.lit (.bool false)], args := [d1, d2] }
  | _ => none }
def FnExactBestReplyWrongFalsely : Prop := fnExactBestReplyRow.holds Try.pinned (OpenSpec.ofChange fnExactBestReplyWrong)

/-- 'laws.FnExactPerfectPlay': WHATEVER THE INPUT: true; the input reads as it did. -/
def fnExactPerfectPlaySpec : ChangeSpec := { name := "fnExactPerfectPlay", fn := fun _ => fun
  | [d] => { results := [.lit (.bool true)], args := [d] }
  | _ => none }
def fnExactPerfectPlayRow : OpenClaim := { program := "ytkajebhagkbcaac", sum := "a17523e10b395f3c11bf595ae28b8687f6fea280239f3a9a97036fdec3ee05e5", func := "loop.example/g01141/laws.FnExactPerfectPlay", spec := "fnExactPerfectPlay", apart := false }
def FnExactPerfectPlaySaid : Prop := fnExactPerfectPlayRow.holds Try.pinned (OpenSpec.ofChange fnExactPerfectPlaySpec)

/-- ITS FALSE NEIGHBOUR: 'it returns false'. Refute it at one input. -/
def fnExactPerfectPlayWrong : ChangeSpec := { name := "fnExactPerfectPlay", fn := fun _ => fun
  | [d] => { results := [.lit (.bool false)], args := [d] }
  | _ => none }
def FnExactPerfectPlayWrongFalsely : Prop := fnExactPerfectPlayRow.holds Try.pinned (OpenSpec.ofChange fnExactPerfectPlayWrong)

/-- 'laws.FnExactCountBest': WHATEVER THE INPUT: true; the input reads as it did. -/
def fnExactCountBestSpec : ChangeSpec := { name := "fnExactCountBest", fn := fun _ => fun
  | [d] => { results := [.lit (.bool true)], args := [d] }
  | _ => none }
def fnExactCountBestRow : OpenClaim := { program := "ytkajebhagkbcaac", sum := "a17523e10b395f3c11bf595ae28b8687f6fea280239f3a9a97036fdec3ee05e5", func := "loop.example/g01141/laws.FnExactCountBest", spec := "fnExactCountBest", apart := false }
def FnExactCountBestSaid : Prop := fnExactCountBestRow.holds Try.pinned (OpenSpec.ofChange fnExactCountBestSpec)

/-- ITS FALSE NEIGHBOUR: 'it returns false'. Refute it at one input. -/
def fnExactCountBestWrong : ChangeSpec := { name := "fnExactCountBest", fn := fun _ => fun
  | [d] => { results := [.lit (.bool false)], args := [d] }
  | _ => none }
def FnExactCountBestWrongFalsely : Prop := fnExactCountBestRow.holds Try.pinned (OpenSpec.ofChange fnExactCountBestWrong)

/-- 'laws.FnExactAskGame': WHATEVER THE INPUT: true; the input reads as it did. -/
def fnExactAskGameSpec : ChangeSpec := { name := "fnExactAskGame", fn := fun _ => fun
  | [d1, d2, d3] => { results := [.lit (.bool true)], args := [d1, d2, d3] }
  | _ => none }
def fnExactAskGameRow : OpenClaim := { program := "ytkajebhagkbcaac", sum := "a17523e10b395f3c11bf595ae28b8687f6fea280239f3a9a97036fdec3ee05e5", func := "loop.example/g01141/laws.FnExactAskGame", spec := "fnExactAskGame", unfollowed := true, recurses := true, apart := false }
def FnExactAskGameSaid : Prop := fnExactAskGameRow.holds Try.pinned (OpenSpec.ofChange fnExactAskGameSpec)

/-- ITS FALSE NEIGHBOUR: 'it returns false'. Refute it at one input. -/
def fnExactAskGameWrong : ChangeSpec := { name := "fnExactAskGame", fn := fun _ => fun
  | [d1, d2, d3] => { results := [.lit (.bool false)], args := [d1, d2, d3] }
  | _ => none }
def FnExactAskGameWrongFalsely : Prop := fnExactAskGameRow.holds Try.pinned (OpenSpec.ofChange fnExactAskGameWrong)

/-- 'laws.FnExactSameByNames': WHATEVER THE INPUT: true; the input reads as it did. -/
def fnExactSameByNamesSpec : ChangeSpec := { name := "fnExactSameByNames", fn := fun _ => fun
  | [d1, d2] => { results := [.lit (.bool true)], args := [d1, d2] }
  | _ => none }
def fnExactSameByNamesRow : OpenClaim := { program := "ytkajebhagkbcaac", sum := "a17523e10b395f3c11bf595ae28b8687f6fea280239f3a9a97036fdec3ee05e5", func := "loop.example/g01141/laws.FnExactSameByNames", spec := "fnExactSameByNames", inPlace := ["slices.overlaps[int]"], unfollowed := true, recurses := true, apart := false }
def FnExactSameByNamesSaid : Prop := fnExactSameByNamesRow.holds Try.pinned (OpenSpec.ofChange fnExactSameByNamesSpec)

/-- ITS FALSE NEIGHBOUR: 'it returns false'. Refute it at one input. -/
def fnExactSameByNamesWrong : ChangeSpec := { name := "fnExactSameByNames", fn := fun _ => fun
  | [d1, d2] => { results := [.lit (.bool false)], args := [d1, d2] }
  | _ => none }
def FnExactSameByNamesWrongFalsely : Prop := fnExactSameByNamesRow.holds Try.pinned (OpenSpec.ofChange fnExactSameByNamesWrong)

/-- 'laws.FnExactTrimGame': WHATEVER THE INPUT: true; the input reads as it did. -/
def fnExactTrimGameSpec : ChangeSpec := { name := "fnExactTrimGame", fn := fun _ => fun
  | [d] => { results := [.lit (.bool true)], args := [d] }
  | _ => none }
def fnExactTrimGameRow : OpenClaim := { program := "ytkajebhagkbcaac", sum := "a17523e10b395f3c11bf595ae28b8687f6fea280239f3a9a97036fdec3ee05e5", func := "loop.example/g01141/laws.FnExactTrimGame", spec := "fnExactTrimGame", unfollowed := true, recurses := true, apart := false }
def FnExactTrimGameSaid : Prop := fnExactTrimGameRow.holds Try.pinned (OpenSpec.ofChange fnExactTrimGameSpec)

/-- ITS FALSE NEIGHBOUR: 'it returns false'. Refute it at one input. -/
def fnExactTrimGameWrong : ChangeSpec := { name := "fnExactTrimGame", fn := fun _ => fun
  | [d] => { results := [.lit (.bool false)], args := [d] }
  | _ => none }
def FnExactTrimGameWrongFalsely : Prop := fnExactTrimGameRow.holds Try.pinned (OpenSpec.ofChange fnExactTrimGameWrong)

/-- 'laws.FnExactBothValue': WHATEVER THE INPUT: true; the input reads as it did. -/
def fnExactBothValueSpec : ChangeSpec := { name := "fnExactBothValue", fn := fun _ => fun
  | [d1, d2] => { results := [.lit (.bool true)], args := [d1, d2] }
  | _ => none }
def fnExactBothValueRow : OpenClaim := { program := "ytkajebhagkbcaac", sum := "a17523e10b395f3c11bf595ae28b8687f6fea280239f3a9a97036fdec3ee05e5", func := "loop.example/g01141/laws.FnExactBothValue", spec := "fnExactBothValue", apart := false }
def FnExactBothValueSaid : Prop := fnExactBothValueRow.holds Try.pinned (OpenSpec.ofChange fnExactBothValueSpec)

/-- ITS FALSE NEIGHBOUR: 'it returns false'. Refute it at one input. -/
def fnExactBothValueWrong : ChangeSpec := { name := "fnExactBothValue", fn := fun _ => fun
  | [d1, d2] => { results := [.lit (.bool false)], args := [d1, d2] }
  | _ => none }
def FnExactBothValueWrongFalsely : Prop := fnExactBothValueRow.holds Try.pinned (OpenSpec.ofChange fnExactBothValueWrong)

/- THE SECOND FORM. 'bulk': how many values and letters a reading holds, each counted each time it is reached (what is shared counts as often as it is met; a slice's spare places count too). A statement '..UptoSaid' is the law's where the arguments, and the package variables that the reading takes, are together of bulk at most 1048576: NARROWER than '..Said'. Prove '..Said' where nothing that the law and all that it calls make is longer than what came in: it says more and counts as full. Else prove '..UptoSaid'. A law counts once. -/
mutual
def uptoBulk {H : Type} : DataW H → Nat
  | .lit (.string bytes) => bytes.length + 1
  | .lit _ => 1
  | .nil => 1
  | .ptr d => uptoBulk d + 1
  | .slice elems spare => uptoBulkAll elems + uptoBulkAll spare + 1
  | .agg parts => uptoBulkAll parts + 1
  | .iface _ d => uptoBulk d + 1
  | .map entries => uptoBulkEntries entries + 1
  | .held _ => 1
def uptoBulkAll {H : Type} : List (DataW H) → Nat
  | [] => 0
  | d :: r => uptoBulk d + uptoBulkAll r
def uptoBulkEntries {H : Type} : List (Lit × DataW H) → Nat
  | [] => 0
  | x :: r => uptoBulkEntry x + uptoBulkEntries r
def uptoBulkEntry {H : Type} : Lit × DataW H → Nat
  | (.string bytes, d) => bytes.length + uptoBulk d + 1
  | (_, d) => uptoBulk d + 1
 end
def uptoSmall : (H : Type) → List (DataW H) → Bool := fun _ ds => decide (uptoBulkAll ds ≤ 1048576)
def OpenSpec.upto (s : _root_.Go.ChangeSpec) : _root_.Go.OpenSpec := { _root_.Go.OpenSpec.ofChange s with cond := some uptoSmall }

/-- 'laws.FnExactIsGame', WHERE WHAT IT READS IS OF BULK AT MOST 1048576: true; the input reads as it did. -/
def fnExactIsGameUptoRow : OpenClaim := { program := "ytkajebhagkbcaac", sum := "a17523e10b395f3c11bf595ae28b8687f6fea280239f3a9a97036fdec3ee05e5", func := "loop.example/g01141/laws.FnExactIsGame", spec := "fnExactIsGame", apart := false, narrowed := true }
def FnExactIsGameUptoSaid : Prop := fnExactIsGameUptoRow.holds Try.pinned (OpenSpec.upto fnExactIsGameSpec)

/-- 'laws.FnExactTotalWeight', WHERE WHAT IT READS IS OF BULK AT MOST 1048576: true; the input reads as it did. -/
def fnExactTotalWeightUptoRow : OpenClaim := { program := "ytkajebhagkbcaac", sum := "a17523e10b395f3c11bf595ae28b8687f6fea280239f3a9a97036fdec3ee05e5", func := "loop.example/g01141/laws.FnExactTotalWeight", spec := "fnExactTotalWeight", apart := false, narrowed := true }
def FnExactTotalWeightUptoSaid : Prop := fnExactTotalWeightUptoRow.holds Try.pinned (OpenSpec.upto fnExactTotalWeightSpec)

/-- 'laws.FnExactPlayScore', WHERE WHAT IT READS IS OF BULK AT MOST 1048576: true; the input reads as it did. -/
def fnExactPlayScoreUptoRow : OpenClaim := { program := "ytkajebhagkbcaac", sum := "a17523e10b395f3c11bf595ae28b8687f6fea280239f3a9a97036fdec3ee05e5", func := "loop.example/g01141/laws.FnExactPlayScore", spec := "fnExactPlayScore", apart := false, narrowed := true }
def FnExactPlayScoreUptoSaid : Prop := fnExactPlayScoreUptoRow.holds Try.pinned (OpenSpec.upto fnExactPlayScoreSpec)

/-- 'laws.FnExactLostPairs', WHERE WHAT IT READS IS OF BULK AT MOST 1048576: true; the input reads as it did. -/
def fnExactLostPairsUptoRow : OpenClaim := { program := "ytkajebhagkbcaac", sum := "a17523e10b395f3c11bf595ae28b8687f6fea280239f3a9a97036fdec3ee05e5", func := "loop.example/g01141/laws.FnExactLostPairs", spec := "fnExactLostPairs", apart := false, narrowed := true }
def FnExactLostPairsUptoSaid : Prop := fnExactLostPairsUptoRow.holds Try.pinned (OpenSpec.upto fnExactLostPairsSpec)

/-- 'laws.FnExactBestPlay', WHERE WHAT IT READS IS OF BULK AT MOST 1048576: true; the input reads as it did. -/
def fnExactBestPlayUptoRow : OpenClaim := { program := "ytkajebhagkbcaac", sum := "a17523e10b395f3c11bf595ae28b8687f6fea280239f3a9a97036fdec3ee05e5", func := "loop.example/g01141/laws.FnExactBestPlay", spec := "fnExactBestPlay", apart := false, narrowed := true }
def FnExactBestPlayUptoSaid : Prop := fnExactBestPlayUptoRow.holds Try.pinned (OpenSpec.upto fnExactBestPlaySpec)

/-- 'laws.FnExactBestReply', WHERE WHAT IT READS IS OF BULK AT MOST 1048576: true; the input reads as it did. -/
def fnExactBestReplyUptoRow : OpenClaim := { program := "ytkajebhagkbcaac", sum := "a17523e10b395f3c11bf595ae28b8687f6fea280239f3a9a97036fdec3ee05e5", func := "loop.example/g01141/laws.FnExactBestReply", spec := "fnExactBestReply", apart := false, narrowed := true }
def FnExactBestReplyUptoSaid : Prop := fnExactBestReplyUptoRow.holds Try.pinned (OpenSpec.upto fnExactBestReplySpec)

/-- 'laws.FnExactPerfectPlay', WHERE WHAT IT READS IS OF BULK AT MOST 1048576: true; the input reads as it did. -/
def fnExactPerfectPlayUptoRow : OpenClaim := { program := "ytkajebhagkbcaac", sum := "a17523e10b395f3c11bf595ae28b8687f6fea280239f3a9a97036fdec3ee05e5", func := "loop.example/g01141/laws.FnExactPerfectPlay", spec := "fnExactPerfectPlay", apart := false, narrowed := true }
def FnExactPerfectPlayUptoSaid : Prop := fnExactPerfectPlayUptoRow.holds Try.pinned (OpenSpec.upto fnExactPerfectPlaySpec)

/-- 'laws.FnExactCountBest', WHERE WHAT IT READS IS OF BULK AT MOST 1048576: true; the input reads as it did. -/
def fnExactCountBestUptoRow : OpenClaim := { program := "ytkajebhagkbcaac", sum := "a17523e10b395f3c11bf595ae28b8687f6fea280239f3a9a97036fdec3ee05e5", func := "loop.example/g01141/laws.FnExactCountBest", spec := "fnExactCountBest", apart := false, narrowed := true }
def FnExactCountBestUptoSaid : Prop := fnExactCountBestUptoRow.holds Try.pinned (OpenSpec.upto fnExactCountBestSpec)

/-- 'laws.FnExactAskGame', WHERE WHAT IT READS IS OF BULK AT MOST 1048576: true; the input reads as it did. -/
def fnExactAskGameUptoRow : OpenClaim := { program := "ytkajebhagkbcaac", sum := "a17523e10b395f3c11bf595ae28b8687f6fea280239f3a9a97036fdec3ee05e5", func := "loop.example/g01141/laws.FnExactAskGame", spec := "fnExactAskGame", unfollowed := true, recurses := true, apart := false, narrowed := true }
def FnExactAskGameUptoSaid : Prop := fnExactAskGameUptoRow.holds Try.pinned (OpenSpec.upto fnExactAskGameSpec)

/-- 'laws.FnExactSameByNames', WHERE WHAT IT READS IS OF BULK AT MOST 1048576: true; the input reads as it did. -/
def fnExactSameByNamesUptoRow : OpenClaim := { program := "ytkajebhagkbcaac", sum := "a17523e10b395f3c11bf595ae28b8687f6fea280239f3a9a97036fdec3ee05e5", func := "loop.example/g01141/laws.FnExactSameByNames", spec := "fnExactSameByNames", inPlace := ["slices.overlaps[int]"], unfollowed := true, recurses := true, apart := false, narrowed := true }
def FnExactSameByNamesUptoSaid : Prop := fnExactSameByNamesUptoRow.holds Try.pinned (OpenSpec.upto fnExactSameByNamesSpec)

/-- 'laws.FnExactTrimGame', WHERE WHAT IT READS IS OF BULK AT MOST 1048576: true; the input reads as it did. -/
def fnExactTrimGameUptoRow : OpenClaim := { program := "ytkajebhagkbcaac", sum := "a17523e10b395f3c11bf595ae28b8687f6fea280239f3a9a97036fdec3ee05e5", func := "loop.example/g01141/laws.FnExactTrimGame", spec := "fnExactTrimGame", unfollowed := true, recurses := true, apart := false, narrowed := true }
def FnExactTrimGameUptoSaid : Prop := fnExactTrimGameUptoRow.holds Try.pinned (OpenSpec.upto fnExactTrimGameSpec)

/-- 'laws.FnExactBothValue', WHERE WHAT IT READS IS OF BULK AT MOST 1048576: true; the input reads as it did. -/
def fnExactBothValueUptoRow : OpenClaim := { program := "ytkajebhagkbcaac", sum := "a17523e10b395f3c11bf595ae28b8687f6fea280239f3a9a97036fdec3ee05e5", func := "loop.example/g01141/laws.FnExactBothValue", spec := "fnExactBothValue", apart := false, narrowed := true }
def FnExactBothValueUptoSaid : Prop := fnExactBothValueUptoRow.holds Try.pinned (OpenSpec.upto fnExactBothValueSpec)

end Rows
end Go.Proofs.Ytkajebhagkbcaac
