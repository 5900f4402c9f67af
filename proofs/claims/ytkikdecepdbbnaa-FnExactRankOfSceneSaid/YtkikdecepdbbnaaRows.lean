/-
  No cell of these rows narrows 'for every input' (looked for: loops, veiled, ifaces, maps, wideKeys, modest, calm, conditions, laid).
  DERIVED. THE GIVEN ROWS OF THIS SEAT. 12 by the template 'for every input the law returns true; each argument reads behind the call as it read before'; 0 by the template 'total and deterministic' (their statements: YtkikdecepdbbnaaTotals.lean).
  GIVEN WITH THE SEED: the statements are not yours to turn. If you find one false, say at which input.
  Laid BY PROGRAM, IN A SANDBOX (cutbox-rows.mjs): the forced cells as the released guide's own fill.sh prints them over the translation eefdec963cea7900… (all of the seat's roots in one cut). By AI agents, Wed Nov 11 2026. No macro, syntax, notation, axiom, sorry.
-/
import Derived.Test.YtkikdecepdbbnaaChecked
import GoSem.Claim
import GoSem.ClaimJoined
import GoSem.ClaimMapViews
import Derived.JoinedTies
import Derived.KernelRfl
namespace Go.Proofs.Ytkikdecepdbbnaa
/- THE CELL 'sum', in the pinned program and in every row, IS THE sha256 OF THE DUMP (.gsa) THAT YtkikdecepdbbnaaProg.lean LOADS. Nothing in Lean hashes anything: it is a label: what it is worth is what the hold of that sum in a sandbox is worth. -/
noncomputable def Try.pinned : Pinned := { name := "ytkikdecepdbbnaa", sum := "eefdec963cea7900839cbea6903c376558861510bb2d9db93eae72b7ffaa2332", checked := Try.checked }
namespace Rows
def none {H : Type} : Left H := { results := [], args := [] }

/-- 'laws.FnExactIsScene': WHATEVER THE INPUT: true; the input reads as it did. -/
def fnExactIsSceneSpec : ChangeSpec := { name := "fnExactIsScene", fn := fun _ => fun
  | [d] => { results := [.lit (.bool true)], args := [d] }
  | _ => none }
def fnExactIsSceneRow : OpenClaim := { program := "ytkikdecepdbbnaa", sum := "eefdec963cea7900839cbea6903c376558861510bb2d9db93eae72b7ffaa2332", func := "loop.example/g01141/laws.FnExactIsScene", spec := "fnExactIsScene", apart := false }
def FnExactIsSceneSaid : Prop := fnExactIsSceneRow.holds Try.pinned (OpenSpec.ofChange fnExactIsSceneSpec)

/-- ITS FALSE NEIGHBOUR: 'it returns false'. Refute it at one input. -/
def fnExactIsSceneWrong : ChangeSpec := { name := "fnExactIsScene", fn := fun _ => fun
  | [d] => { results := [.lit (.bool false)], args := [d] }
  | _ => none }
def FnExactIsSceneWrongFalsely : Prop := fnExactIsSceneRow.holds Try.pinned (OpenSpec.ofChange fnExactIsSceneWrong)

/-- 'laws.FnExactKeptBy': WHATEVER THE INPUT: true; the input reads as it did. -/
def fnExactKeptBySpec : ChangeSpec := { name := "fnExactKeptBy", fn := fun _ => fun
  | [d1, d2] => { results := [.lit (.bool true)], args := [d1, d2] }
  | _ => none }
def fnExactKeptByRow : OpenClaim := { program := "ytkikdecepdbbnaa", sum := "eefdec963cea7900839cbea6903c376558861510bb2d9db93eae72b7ffaa2332", func := "loop.example/g01141/laws.FnExactKeptBy", spec := "fnExactKeptBy", unfollowed := true, recurses := true, apart := false }
def FnExactKeptBySaid : Prop := fnExactKeptByRow.holds Try.pinned (OpenSpec.ofChange fnExactKeptBySpec)

/-- ITS FALSE NEIGHBOUR: 'it returns false'. Refute it at one input. -/
def fnExactKeptByWrong : ChangeSpec := { name := "fnExactKeptBy", fn := fun _ => fun
  | [d1, d2] => { results := [.lit (.bool false)], args := [d1, d2] }
  | _ => none }
def FnExactKeptByWrongFalsely : Prop := fnExactKeptByRow.holds Try.pinned (OpenSpec.ofChange fnExactKeptByWrong)

/-- 'laws.FnExactSolvesScene': WHATEVER THE INPUT: true; the input reads as it did. -/
def fnExactSolvesSceneSpec : ChangeSpec := { name := "fnExactSolvesScene", fn := fun _ => fun
  | [d1, d2] => { results := [.lit (.bool true)], args := [d1, d2] }
  | _ => none }
def fnExactSolvesSceneRow : OpenClaim := { program := "ytkikdecepdbbnaa", sum := "eefdec963cea7900839cbea6903c376558861510bb2d9db93eae72b7ffaa2332", func := "loop.example/g01141/laws.FnExactSolvesScene", spec := "fnExactSolvesScene", unfollowed := true, recurses := true, apart := false }
def FnExactSolvesSceneSaid : Prop := fnExactSolvesSceneRow.holds Try.pinned (OpenSpec.ofChange fnExactSolvesSceneSpec)

/-- ITS FALSE NEIGHBOUR: 'it returns false'. Refute it at one input. -/
def fnExactSolvesSceneWrong : ChangeSpec := { name := "fnExactSolvesScene", fn := fun _ => fun
  | [d1, d2] => { results := [.lit (.bool false)], args := [d1, d2] }
  | _ => none }
def FnExactSolvesSceneWrongFalsely : Prop := fnExactSolvesSceneRow.holds Try.pinned (OpenSpec.ofChange fnExactSolvesSceneWrong)

/-- 'laws.FnExactRankOfScene': WHATEVER THE INPUT: true; the input reads as it did. -/
def fnExactRankOfSceneSpec : ChangeSpec := { name := "fnExactRankOfScene", fn := fun _ => fun
  | [d] => { results := [.lit (.bool true)], args := [d] }
  | _ => none }
def fnExactRankOfSceneRow : OpenClaim := { program := "ytkikdecepdbbnaa", sum := "eefdec963cea7900839cbea6903c376558861510bb2d9db93eae72b7ffaa2332", func := "loop.example/g01141/laws.FnExactRankOfScene", spec := "fnExactRankOfScene", apart := false }
def FnExactRankOfSceneSaid : Prop := fnExactRankOfSceneRow.holds Try.pinned (OpenSpec.ofChange fnExactRankOfSceneSpec)

/-- ITS FALSE NEIGHBOUR: 'it returns false'. Refute it at one input. -/
def fnExactRankOfSceneWrong : ChangeSpec := { name := "fnExactRankOfScene", fn := fun _ => fun
  | [d] => { results := [.lit (.bool false)], args := [d] }
  | _ => none }
def FnExactRankOfSceneWrongFalsely : Prop := fnExactRankOfSceneRow.holds Try.pinned (OpenSpec.ofChange fnExactRankOfSceneWrong)

/-- 'laws.FnExactIsParityProof': WHATEVER THE INPUT: true; the input reads as it did. -/
def fnExactIsParityProofSpec : ChangeSpec := { name := "fnExactIsParityProof", fn := fun _ => fun
  | [d1, d2] => { results := [.lit (.bool true)], args := [d1, d2] }
  | _ => none }
def fnExactIsParityProofRow : OpenClaim := { program := "ytkikdecepdbbnaa", sum := "eefdec963cea7900839cbea6903c376558861510bb2d9db93eae72b7ffaa2332", func := "loop.example/g01141/laws.FnExactIsParityProof", spec := "fnExactIsParityProof", apart := false }
def FnExactIsParityProofSaid : Prop := fnExactIsParityProofRow.holds Try.pinned (OpenSpec.ofChange fnExactIsParityProofSpec)

/-- ITS FALSE NEIGHBOUR: 'it returns false'. Refute it at one input. -/
def fnExactIsParityProofWrong : ChangeSpec := { name := "fnExactIsParityProof", fn := fun _ => fun
  | [d1, d2] => { results := [.lit (.bool false)], args := [d1, d2] }
  | _ => none }
def FnExactIsParityProofWrongFalsely : Prop := fnExactIsParityProofRow.holds Try.pinned (OpenSpec.ofChange fnExactIsParityProofWrong)

/-- 'laws.FnExactFindParityProof': WHATEVER THE INPUT: true; the input reads as it did. -/
def fnExactFindParityProofSpec : ChangeSpec := { name := "fnExactFindParityProof", fn := fun _ => fun
  | [d] => { results := [.lit (.bool true)], args := [d] }
  | _ => none }
def fnExactFindParityProofRow : OpenClaim := { program := "ytkikdecepdbbnaa", sum := "eefdec963cea7900839cbea6903c376558861510bb2d9db93eae72b7ffaa2332", func := "loop.example/g01141/laws.FnExactFindParityProof", spec := "fnExactFindParityProof", apart := false }
def FnExactFindParityProofSaid : Prop := fnExactFindParityProofRow.holds Try.pinned (OpenSpec.ofChange fnExactFindParityProofSpec)

/-- ITS FALSE NEIGHBOUR: 'it returns false'. Refute it at one input. -/
def fnExactFindParityProofWrong : ChangeSpec := { name := "fnExactFindParityProof", fn := fun _ => fun
  | [d] => { results := [.lit (.bool false)], args := [d] }
  | _ => none }
def FnExactFindParityProofWrongFalsely : Prop := fnExactFindParityProofRow.holds Try.pinned (OpenSpec.ofChange fnExactFindParityProofWrong)

/-- 'laws.FnExactSquareScene': WHATEVER THE INPUT: true; the input reads as it did. -/
def fnExactSquareSceneSpec : ChangeSpec := { name := "fnExactSquareScene", fn := fun _ => fun
  | [] => { results := [.lit (.bool true)], args := [] }
  | _ => none }
def fnExactSquareSceneRow : OpenClaim := { program := "ytkikdecepdbbnaa", sum := "eefdec963cea7900839cbea6903c376558861510bb2d9db93eae72b7ffaa2332", func := "loop.example/g01141/laws.FnExactSquareScene", spec := "fnExactSquareScene", apart := false }
def FnExactSquareSceneSaid : Prop := fnExactSquareSceneRow.holds Try.pinned (OpenSpec.ofChange fnExactSquareSceneSpec)

/-- ITS FALSE NEIGHBOUR: 'it returns false'. Refute it at one input. -/
def fnExactSquareSceneWrong : ChangeSpec := { name := "fnExactSquareScene", fn := fun _ => fun
  | [] => { results := [.lit (.bool false)], args := [] }
  | _ => none }
def FnExactSquareSceneWrongFalsely : Prop := fnExactSquareSceneRow.holds Try.pinned (OpenSpec.ofChange fnExactSquareSceneWrong)

/-- 'laws.FnExactStarScene': WHATEVER THE INPUT: true; the input reads as it did. -/
def fnExactStarSceneSpec : ChangeSpec := { name := "fnExactStarScene", fn := fun _ => fun
  | [] => { results := [.lit (.bool true)], args := [] }
  | _ => none }
def fnExactStarSceneRow : OpenClaim := { program := "ytkikdecepdbbnaa", sum := "eefdec963cea7900839cbea6903c376558861510bb2d9db93eae72b7ffaa2332", func := "loop.example/g01141/laws.FnExactStarScene", spec := "fnExactStarScene", apart := false }
def FnExactStarSceneSaid : Prop := fnExactStarSceneRow.holds Try.pinned (OpenSpec.ofChange fnExactStarSceneSpec)

/-- ITS FALSE NEIGHBOUR: 'it returns false'. Refute it at one input. -/
def fnExactStarSceneWrong : ChangeSpec := { name := "fnExactStarScene", fn := fun _ => fun
  | [] => { results := [.lit (.bool false)], args := [] }
  | _ => none }
def FnExactStarSceneWrongFalsely : Prop := fnExactStarSceneRow.holds Try.pinned (OpenSpec.ofChange fnExactStarSceneWrong)

/-- 'laws.FnExactFlipEvent': WHATEVER THE INPUT: true; the input reads as it did. -/
def fnExactFlipEventSpec : ChangeSpec := { name := "fnExactFlipEvent", fn := fun _ => fun
  | [d1, d2] => { results := [.lit (.bool true)], args := [d1, d2] }
  | _ => none }
def fnExactFlipEventRow : OpenClaim := { program := "ytkikdecepdbbnaa", sum := "eefdec963cea7900839cbea6903c376558861510bb2d9db93eae72b7ffaa2332", func := "loop.example/g01141/laws.FnExactFlipEvent", spec := "fnExactFlipEvent", apart := false }
def FnExactFlipEventSaid : Prop := fnExactFlipEventRow.holds Try.pinned (OpenSpec.ofChange fnExactFlipEventSpec)

/-- ITS FALSE NEIGHBOUR: 'it returns false'. Refute it at one input. -/
def fnExactFlipEventWrong : ChangeSpec := { name := "fnExactFlipEvent", fn := fun _ => fun
  | [d1, d2] => { results := [.lit (.bool false)], args := [d1, d2] }
  | _ => none }
def FnExactFlipEventWrongFalsely : Prop := fnExactFlipEventRow.holds Try.pinned (OpenSpec.ofChange fnExactFlipEventWrong)

/-- 'laws.FnExactJoinScenes': WHATEVER THE INPUT: true; the input reads as it did. -/
def fnExactJoinScenesSpec : ChangeSpec := { name := "fnExactJoinScenes", fn := fun _ => fun
  | [d1, d2] => { results := [.lit (.bool true)], args := [d1, d2] }
  | _ => none }
def fnExactJoinScenesRow : OpenClaim := { program := "ytkikdecepdbbnaa", sum := "eefdec963cea7900839cbea6903c376558861510bb2d9db93eae72b7ffaa2332", func := "loop.example/g01141/laws.FnExactJoinScenes", spec := "fnExactJoinScenes", apart := false }
def FnExactJoinScenesSaid : Prop := fnExactJoinScenesRow.holds Try.pinned (OpenSpec.ofChange fnExactJoinScenesSpec)

/-- ITS FALSE NEIGHBOUR: 'it returns false'. Refute it at one input. -/
def fnExactJoinScenesWrong : ChangeSpec := { name := "fnExactJoinScenes", fn := fun _ => fun
  | [d1, d2] => { results := [.lit (.bool false)], args := [d1, d2] }
  | _ => none }
def FnExactJoinScenesWrongFalsely : Prop := fnExactJoinScenesRow.holds Try.pinned (OpenSpec.ofChange fnExactJoinScenesWrong)

/-- 'laws.FnExactPicks': WHATEVER THE INPUT: true; the input reads as it did. -/
def fnExactPicksSpec : ChangeSpec := { name := "fnExactPicks", fn := fun _ => fun
  | [d1, d2] => { results := [.lit (.bool true)], args := [d1, d2] }
  | _ => none }
def fnExactPicksRow : OpenClaim := { program := "ytkikdecepdbbnaa", sum := "eefdec963cea7900839cbea6903c376558861510bb2d9db93eae72b7ffaa2332", func := "loop.example/g01141/laws.FnExactPicks", spec := "fnExactPicks", unfollowed := true, recurses := true, apart := false }
def FnExactPicksSaid : Prop := fnExactPicksRow.holds Try.pinned (OpenSpec.ofChange fnExactPicksSpec)

/-- ITS FALSE NEIGHBOUR: 'it returns false'. Refute it at one input. -/
def fnExactPicksWrong : ChangeSpec := { name := "fnExactPicks", fn := fun _ => fun
  | [d1, d2] => { results := [.lit (.bool false)], args := [d1, d2] }
  | _ => none }
def FnExactPicksWrongFalsely : Prop := fnExactPicksRow.holds Try.pinned (OpenSpec.ofChange fnExactPicksWrong)

/-- 'laws.FnExactOddScene': WHATEVER THE INPUT: true; the input reads as it did. -/
def fnExactOddSceneSpec : ChangeSpec := { name := "fnExactOddScene", fn := fun _ => fun
  | [d] => { results := [.lit (.bool true)], args := [d] }
  | _ => none }
def fnExactOddSceneRow : OpenClaim := { program := "ytkikdecepdbbnaa", sum := "eefdec963cea7900839cbea6903c376558861510bb2d9db93eae72b7ffaa2332", func := "loop.example/g01141/laws.FnExactOddScene", spec := "fnExactOddScene", apart := false }
def FnExactOddSceneSaid : Prop := fnExactOddSceneRow.holds Try.pinned (OpenSpec.ofChange fnExactOddSceneSpec)

/-- ITS FALSE NEIGHBOUR: 'it returns false'. Refute it at one input. -/
def fnExactOddSceneWrong : ChangeSpec := { name := "fnExactOddScene", fn := fun _ => fun
  | [d] => { results := [.lit (.bool false)], args := [d] }
  | _ => none }
def FnExactOddSceneWrongFalsely : Prop := fnExactOddSceneRow.holds Try.pinned (OpenSpec.ofChange fnExactOddSceneWrong)

/- THE SECOND FORM. 'bulk': how many values and letters a reading holds, each counted each time it is reached (what is shared counts as often as it is met; a slice's spare places count too). A statement '..UptoSaid' is the law's where the arguments, and the package variables that the reading takes, are together of bulk at most 1048576: NARROWER than '..Said'. Prove '..Said' where nothing that the law and all that it calls make is longer than what came in: it says more and counts as full. Else prove '..UptoSaid'. A law counts once. -/
mutual
def uptoBulk {H : Type} : DataW H → Nat
  | .lit (.string bytes) => bytes.length + 1
  | .lit _ => 1
  | .nil => 1
  | .ptr d => uptoBulk d + 1
  | .slice elems spare => uptoBulkAll elems + uptoBulkAll spare + 1
  | .agg parts => uptoBulkAll parts + 1
  | .iface _ d => uptoBulk d + 1
  | .map entries => uptoBulkEntries entries + 1
  | .held _ => 1
def uptoBulkAll {H : Type} : List (DataW H) → Nat
  | [] => 0
  | d :: r => uptoBulk d + uptoBulkAll r
def uptoBulkEntries {H : Type} : List (Lit × DataW H) → Nat
  | [] => 0
  | x :: r => uptoBulkEntry x + uptoBulkEntries r
def uptoBulkEntry {H : Type} : Lit × DataW H → Nat
  | (.string bytes, d) => bytes.length + uptoBulk d + 1
  | (_, d) => uptoBulk d + 1
 end
def uptoSmall : (H : Type) → List (DataW H) → Bool := fun _ ds => decide (uptoBulkAll ds ≤ 1048576)
def OpenSpec.upto (s : _root_.Go.ChangeSpec) : _root_.Go.OpenSpec := { _root_.Go.OpenSpec.ofChange s with cond := some uptoSmall }

/-- 'laws.FnExactIsScene', WHERE WHAT IT READS IS OF BULK AT MOST 1048576: true; the input reads as it did. -/
def fnExactIsSceneUptoRow : OpenClaim := { program := "ytkikdecepdbbnaa", sum := "eefdec963cea7900839cbea6903c376558861510bb2d9db93eae72b7ffaa2332", func := "loop.example/g01141/laws.FnExactIsScene", spec := "fnExactIsScene", apart := false, narrowed := true }
def FnExactIsSceneUptoSaid : Prop := fnExactIsSceneUptoRow.holds Try.pinned (OpenSpec.upto fnExactIsSceneSpec)

/-- 'laws.FnExactKeptBy', WHERE WHAT IT READS IS OF BULK AT MOST 1048576: true; the input reads as it did. -/
def fnExactKeptByUptoRow : OpenClaim := { program := "ytkikdecepdbbnaa", sum := "eefdec963cea7900839cbea6903c376558861510bb2d9db93eae72b7ffaa2332", func := "loop.example/g01141/laws.FnExactKeptBy", spec := "fnExactKeptBy", unfollowed := true, recurses := true, apart := false, narrowed := true }
def FnExactKeptByUptoSaid : Prop := fnExactKeptByUptoRow.holds Try.pinned (OpenSpec.upto fnExactKeptBySpec)

/-- 'laws.FnExactSolvesScene', WHERE WHAT IT READS IS OF BULK AT MOST 1048576: true; the input reads as it did. -/
def fnExactSolvesSceneUptoRow : OpenClaim := { program := "ytkikdecepdbbnaa", sum := "eefdec963cea7900839cbea6903c376558861510bb2d9db93eae72b7ffaa2332", func := "loop.example/g01141/laws.FnExactSolvesScene", spec := "fnExactSolvesScene", unfollowed := true, recurses := true, apart := false, narrowed := true }
def FnExactSolvesSceneUptoSaid : Prop := fnExactSolvesSceneUptoRow.holds Try.pinned (OpenSpec.upto fnExactSolvesSceneSpec)

/-- 'laws.FnExactRankOfScene', WHERE WHAT IT READS IS OF BULK AT MOST 1048576: true; the input reads as it did. -/
def fnExactRankOfSceneUptoRow : OpenClaim := { program := "ytkikdecepdbbnaa", sum := "eefdec963cea7900839cbea6903c376558861510bb2d9db93eae72b7ffaa2332", func := "loop.example/g01141/laws.FnExactRankOfScene", spec := "fnExactRankOfScene", apart := false, narrowed := true }
def FnExactRankOfSceneUptoSaid : Prop := fnExactRankOfSceneUptoRow.holds Try.pinned (OpenSpec.upto fnExactRankOfSceneSpec)

/-- 'laws.FnExactIsParityProof', WHERE WHAT IT READS IS OF BULK AT MOST 1048576: true; the input reads as it did. -/
def fnExactIsParityProofUptoRow : OpenClaim := { program := "ytkikdecepdbbnaa", sum := "eefdec963cea7900839cbea6903c376558861510bb2d9db93eae72b7ffaa2332", func := "loop.example/g01141/laws.FnExactIsParityProof", spec := "fnExactIsParityProof", apart := false, narrowed := true }
def FnExactIsParityProofUptoSaid : Prop := fnExactIsParityProofUptoRow.holds Try.pinned (OpenSpec.upto fnExactIsParityProofSpec)

/-- 'laws.FnExactFindParityProof', WHERE WHAT IT READS IS OF BULK AT MOST 1048576: true; the input reads as it did. -/
def fnExactFindParityProofUptoRow : OpenClaim := { program := "ytkikdecepdbbnaa", sum := "eefdec963cea7900839cbea6903c376558861510bb2d9db93eae72b7ffaa2332", func := "loop.example/g01141/laws.FnExactFindParityProof", spec := "fnExactFindParityProof", apart := false, narrowed := true }
def FnExactFindParityProofUptoSaid : Prop := fnExactFindParityProofUptoRow.holds Try.pinned (OpenSpec.upto fnExactFindParityProofSpec)

/-- 'laws.FnExactSquareScene', WHERE WHAT IT READS IS OF BULK AT MOST 1048576: true; the input reads as it did. -/
def fnExactSquareSceneUptoRow : OpenClaim := { program := "ytkikdecepdbbnaa", sum := "eefdec963cea7900839cbea6903c376558861510bb2d9db93eae72b7ffaa2332", func := "loop.example/g01141/laws.FnExactSquareScene", spec := "fnExactSquareScene", apart := false, narrowed := true }
def FnExactSquareSceneUptoSaid : Prop := fnExactSquareSceneUptoRow.holds Try.pinned (OpenSpec.upto fnExactSquareSceneSpec)

/-- 'laws.FnExactStarScene', WHERE WHAT IT READS IS OF BULK AT MOST 1048576: true; the input reads as it did. -/
def fnExactStarSceneUptoRow : OpenClaim := { program := "ytkikdecepdbbnaa", sum := "eefdec963cea7900839cbea6903c376558861510bb2d9db93eae72b7ffaa2332", func := "loop.example/g01141/laws.FnExactStarScene", spec := "fnExactStarScene", apart := false, narrowed := true }
def FnExactStarSceneUptoSaid : Prop := fnExactStarSceneUptoRow.holds Try.pinned (OpenSpec.upto fnExactStarSceneSpec)

/-- 'laws.FnExactFlipEvent', WHERE WHAT IT READS IS OF BULK AT MOST 1048576: true; the input reads as it did. -/
def fnExactFlipEventUptoRow : OpenClaim := { program := "ytkikdecepdbbnaa", sum := "eefdec963cea7900839cbea6903c376558861510bb2d9db93eae72b7ffaa2332", func := "loop.example/g01141/laws.FnExactFlipEvent", spec := "fnExactFlipEvent", apart := false, narrowed := true }
def FnExactFlipEventUptoSaid : Prop := fnExactFlipEventUptoRow.holds Try.pinned (OpenSpec.upto fnExactFlipEventSpec)

/-- 'laws.FnExactJoinScenes', WHERE WHAT IT READS IS OF BULK AT MOST 1048576: true; the input reads as it did. -/
def fnExactJoinScenesUptoRow : OpenClaim := { program := "ytkikdecepdbbnaa", sum := "eefdec963cea7900839cbea6903c376558861510bb2d9db93eae72b7ffaa2332", func := "loop.example/g01141/laws.FnExactJoinScenes", spec := "fnExactJoinScenes", apart := false, narrowed := true }
def FnExactJoinScenesUptoSaid : Prop := fnExactJoinScenesUptoRow.holds Try.pinned (OpenSpec.upto fnExactJoinScenesSpec)

/-- 'laws.FnExactPicks', WHERE WHAT IT READS IS OF BULK AT MOST 1048576: true; the input reads as it did. -/
def fnExactPicksUptoRow : OpenClaim := { program := "ytkikdecepdbbnaa", sum := "eefdec963cea7900839cbea6903c376558861510bb2d9db93eae72b7ffaa2332", func := "loop.example/g01141/laws.FnExactPicks", spec := "fnExactPicks", unfollowed := true, recurses := true, apart := false, narrowed := true }
def FnExactPicksUptoSaid : Prop := fnExactPicksUptoRow.holds Try.pinned (OpenSpec.upto fnExactPicksSpec)

/-- 'laws.FnExactOddScene', WHERE WHAT IT READS IS OF BULK AT MOST 1048576: true; the input reads as it did. -/
def fnExactOddSceneUptoRow : OpenClaim := { program := "ytkikdecepdbbnaa", sum := "eefdec963cea7900839cbea6903c376558861510bb2d9db93eae72b7ffaa2332", func := "loop.example/g01141/laws.FnExactOddScene", spec := "fnExactOddScene", apart := false, narrowed := true }
def FnExactOddSceneUptoSaid : Prop := fnExactOddSceneUptoRow.holds Try.pinned (OpenSpec.upto fnExactOddSceneSpec)

end Rows
end Go.Proofs.Ytkikdecepdbbnaa
