/-
  No cell of these rows narrows 'for every input' (looked for: loops, veiled, ifaces, maps, wideKeys, modest, calm, conditions, laid).
  DERIVED. THE GIVEN ROWS OF THIS SEAT. 12 by the template 'for every input the law returns true; each argument reads behind the call as it read before'; 0 by the template 'total and deterministic' (their statements: YtknpcajignhifaaTotals.lean).
  GIVEN WITH THE SEED: the statements are not yours to turn. If you find one false, say at which input.
  Laid BY PROGRAM, IN A SANDBOX (cutbox-rows.mjs): the forced cells as the released guide's own fill.sh prints them over the translation 56d4f147693740b8… (all of the seat's roots in one cut). By AI agents, Wed Nov 11 2026. No macro, syntax, notation, axiom, sorry.
-/
import Derived.Test.YtknpcajignhifaaChecked
import GoSem.Claim
import GoSem.ClaimJoined
import GoSem.ClaimMapViews
import Derived.JoinedTies
import Derived.KernelRfl
namespace Go.Proofs.Ytknpcajignhifaa
/- THE CELL 'sum', in the pinned program and in every row, IS THE sha256 OF THE DUMP (.gsa) THAT YtknpcajignhifaaProg.lean LOADS. Nothing in Lean hashes anything: it is a label: what it is worth is what the hold of that sum in a sandbox is worth. -/
noncomputable def Try.pinned : Pinned := { name := "ytknpcajignhifaa", sum := "56d4f147693740b80b6aafa4bae6edda076cdbb09bd8df2208d78c0396706939", checked := Try.checked }
namespace Rows
def none {H : Type} : Left H := { results := [], args := [] }

/-- 'laws.FnExactFlipPlay': WHATEVER THE INPUT: true; the input reads as it did. -/
def fnExactFlipPlaySpec : ChangeSpec := { name := "fnExactFlipPlay", fn := fun _ => fun
  | [d1, d2, d3, d4] => { results := [.lit (.bool true)], args := [d1, d2, d3, d4] }
  | _ => none }
def fnExactFlipPlayRow : OpenClaim := { program := "ytknpcajignhifaa", sum := "56d4f147693740b80b6aafa4bae6edda076cdbb09bd8df2208d78c0396706939", func := "loop.example/g01141/laws.FnExactFlipPlay", spec := "fnExactFlipPlay", plainKeys := false, apart := false }
def FnExactFlipPlaySaid : Prop := fnExactFlipPlayRow.holds Try.pinned (OpenSpec.ofChange fnExactFlipPlaySpec)

/-- ITS FALSE NEIGHBOUR: 'it returns false'. Refute it at one input. -/
def fnExactFlipPlayWrong : ChangeSpec := { name := "fnExactFlipPlay", fn := fun _ => fun
  | [d1, d2, d3, d4] => { results := [.lit (.bool false)], args := [d1, d2, d3, d4] }
  | _ => none }
def FnExactFlipPlayWrongFalsely : Prop := fnExactFlipPlayRow.holds Try.pinned (OpenSpec.ofChange fnExactFlipPlayWrong)

/-- 'laws.FnExactSwapPlayers': WHATEVER THE INPUT: true; the input reads as it did. -/
def fnExactSwapPlayersSpec : ChangeSpec := { name := "fnExactSwapPlayers", fn := fun _ => fun
  | [d] => { results := [.lit (.bool true)], args := [d] }
  | _ => none }
def fnExactSwapPlayersRow : OpenClaim := { program := "ytknpcajignhifaa", sum := "56d4f147693740b80b6aafa4bae6edda076cdbb09bd8df2208d78c0396706939", func := "loop.example/g01141/laws.FnExactSwapPlayers", spec := "fnExactSwapPlayers", unfollowed := true, recurses := true, plainKeys := false, apart := false }
def FnExactSwapPlayersSaid : Prop := fnExactSwapPlayersRow.holds Try.pinned (OpenSpec.ofChange fnExactSwapPlayersSpec)

/-- ITS FALSE NEIGHBOUR: 'it returns false'. Refute it at one input. -/
def fnExactSwapPlayersWrong : ChangeSpec := { name := "fnExactSwapPlayers", fn := fun _ => fun
  | [d] => { results := [.lit (.bool false)], args := [d] }
  | _ => none }
def FnExactSwapPlayersWrongFalsely : Prop := fnExactSwapPlayersRow.holds Try.pinned (OpenSpec.ofChange fnExactSwapPlayersWrong)

/-- 'laws.FnExactFlipAnswers': WHATEVER THE INPUT: true; the input reads as it did. -/
def fnExactFlipAnswersSpec : ChangeSpec := { name := "fnExactFlipAnswers", fn := fun _ => fun
  | [d1, d2] => { results := [.lit (.bool true)], args := [d1, d2] }
  | _ => none }
def fnExactFlipAnswersRow : OpenClaim := { program := "ytknpcajignhifaa", sum := "56d4f147693740b80b6aafa4bae6edda076cdbb09bd8df2208d78c0396706939", func := "loop.example/g01141/laws.FnExactFlipAnswers", spec := "fnExactFlipAnswers", unfollowed := true, recurses := true, plainKeys := false, apart := false }
def FnExactFlipAnswersSaid : Prop := fnExactFlipAnswersRow.holds Try.pinned (OpenSpec.ofChange fnExactFlipAnswersSpec)

/-- ITS FALSE NEIGHBOUR: 'it returns false'. Refute it at one input. -/
def fnExactFlipAnswersWrong : ChangeSpec := { name := "fnExactFlipAnswers", fn := fun _ => fun
  | [d1, d2] => { results := [.lit (.bool false)], args := [d1, d2] }
  | _ => none }
def FnExactFlipAnswersWrongFalsely : Prop := fnExactFlipAnswersRow.holds Try.pinned (OpenSpec.ofChange fnExactFlipAnswersWrong)

/-- 'laws.FnExactAskAgain': WHATEVER THE INPUT: true; the input reads as it did. -/
def fnExactAskAgainSpec : ChangeSpec := { name := "fnExactAskAgain", fn := fun _ => fun
  | [d1, d2, d3] => { results := [.lit (.bool true)], args := [d1, d2, d3] }
  | _ => none }
def fnExactAskAgainRow : OpenClaim := { program := "ytknpcajignhifaa", sum := "56d4f147693740b80b6aafa4bae6edda076cdbb09bd8df2208d78c0396706939", func := "loop.example/g01141/laws.FnExactAskAgain", spec := "fnExactAskAgain", unfollowed := true, recurses := true, plainKeys := false, apart := false }
def FnExactAskAgainSaid : Prop := fnExactAskAgainRow.holds Try.pinned (OpenSpec.ofChange fnExactAskAgainSpec)

/-- ITS FALSE NEIGHBOUR: 'it returns false'. Refute it at one input. -/
def fnExactAskAgainWrong : ChangeSpec := { name := "fnExactAskAgain", fn := fun _ => fun
  | [d1, d2, d3] => { results := [.lit (.bool false)], args := [d1, d2, d3] }
  | _ => none }
def FnExactAskAgainWrongFalsely : Prop := fnExactAskAgainRow.holds Try.pinned (OpenSpec.ofChange fnExactAskAgainWrong)

/-- 'laws.FnExactAreAlike': WHATEVER THE INPUT: true; the input reads as it did. -/
def fnExactAreAlikeSpec : ChangeSpec := { name := "fnExactAreAlike", fn := fun _ => fun
  | [d1, d2] => { results := [.lit (.bool true)], args := [d1, d2] }
  | _ => none }
def fnExactAreAlikeRow : OpenClaim := { program := "ytknpcajignhifaa", sum := "56d4f147693740b80b6aafa4bae6edda076cdbb09bd8df2208d78c0396706939", func := "loop.example/g01141/laws.FnExactAreAlike", spec := "fnExactAreAlike", plainKeys := false, apart := false }
def FnExactAreAlikeSaid : Prop := fnExactAreAlikeRow.holds Try.pinned (OpenSpec.ofChange fnExactAreAlikeSpec)

/-- ITS FALSE NEIGHBOUR: 'it returns false'. Refute it at one input. -/
def fnExactAreAlikeWrong : ChangeSpec := { name := "fnExactAreAlike", fn := fun _ => fun
  | [d1, d2] => { results := [.lit (.bool false)], args := [d1, d2] }
  | _ => none }
def FnExactAreAlikeWrongFalsely : Prop := fnExactAreAlikeRow.holds Try.pinned (OpenSpec.ofChange fnExactAreAlikeWrong)

/-- 'laws.FnExactWorthOf': WHATEVER THE INPUT: true; the input reads as it did. -/
def fnExactWorthOfSpec : ChangeSpec := { name := "fnExactWorthOf", fn := fun _ => fun
  | [d1, d2] => { results := [.lit (.bool true)], args := [d1, d2] }
  | _ => none }
def fnExactWorthOfRow : OpenClaim := { program := "ytknpcajignhifaa", sum := "56d4f147693740b80b6aafa4bae6edda076cdbb09bd8df2208d78c0396706939", func := "loop.example/g01141/laws.FnExactWorthOf", spec := "fnExactWorthOf", plainKeys := false, apart := false }
def FnExactWorthOfSaid : Prop := fnExactWorthOfRow.holds Try.pinned (OpenSpec.ofChange fnExactWorthOfSpec)

/-- ITS FALSE NEIGHBOUR: 'it returns false'. Refute it at one input. -/
def fnExactWorthOfWrong : ChangeSpec := { name := "fnExactWorthOf", fn := fun _ => fun
  | [d1, d2] => { results := [.lit (.bool false)], args := [d1, d2] }
  | _ => none }
def FnExactWorthOfWrongFalsely : Prop := fnExactWorthOfRow.holds Try.pinned (OpenSpec.ofChange fnExactWorthOfWrong)

/-- 'laws.FnExactPlayWorth': WHATEVER THE INPUT: true; the input reads as it did. -/
def fnExactPlayWorthSpec : ChangeSpec := { name := "fnExactPlayWorth", fn := fun _ => fun
  | [d1, d2, d3, d4] => { results := [.lit (.bool true)], args := [d1, d2, d3, d4] }
  | _ => none }
def fnExactPlayWorthRow : OpenClaim := { program := "ytknpcajignhifaa", sum := "56d4f147693740b80b6aafa4bae6edda076cdbb09bd8df2208d78c0396706939", func := "loop.example/g01141/laws.FnExactPlayWorth", spec := "fnExactPlayWorth", unfollowed := true, recurses := true, plainKeys := false, apart := false }
def FnExactPlayWorthSaid : Prop := fnExactPlayWorthRow.holds Try.pinned (OpenSpec.ofChange fnExactPlayWorthSpec)

/-- ITS FALSE NEIGHBOUR: 'it returns false'. Refute it at one input. -/
def fnExactPlayWorthWrong : ChangeSpec := { name := "fnExactPlayWorth", fn := fun _ => fun
  | [d1, d2, d3, d4] => { results := [.lit (.bool false)], args := [d1, d2, d3, d4] }
  | _ => none }
def FnExactPlayWorthWrongFalsely : Prop := fnExactPlayWorthRow.holds Try.pinned (OpenSpec.ofChange fnExactPlayWorthWrong)

/-- 'laws.FnExactPlayOf': WHATEVER THE INPUT: true; the input reads as it did. -/
def fnExactPlayOfSpec : ChangeSpec := { name := "fnExactPlayOf", fn := fun _ => fun
  | [d] => { results := [.lit (.bool true)], args := [d] }
  | _ => none }
def fnExactPlayOfRow : OpenClaim := { program := "ytknpcajignhifaa", sum := "56d4f147693740b80b6aafa4bae6edda076cdbb09bd8df2208d78c0396706939", func := "loop.example/g01141/laws.FnExactPlayOf", spec := "fnExactPlayOf", unfollowed := true, recurses := true, plainKeys := false, apart := false }
def FnExactPlayOfSaid : Prop := fnExactPlayOfRow.holds Try.pinned (OpenSpec.ofChange fnExactPlayOfSpec)

/-- ITS FALSE NEIGHBOUR: 'it returns false'. Refute it at one input. -/
def fnExactPlayOfWrong : ChangeSpec := { name := "fnExactPlayOf", fn := fun _ => fun
  | [d] => { results := [.lit (.bool false)], args := [d] }
  | _ => none }
def FnExactPlayOfWrongFalsely : Prop := fnExactPlayOfRow.holds Try.pinned (OpenSpec.ofChange fnExactPlayOfWrong)

/-- 'laws.FnExactMixBoxes': WHATEVER THE INPUT: true; the input reads as it did. -/
def fnExactMixBoxesSpec : ChangeSpec := { name := "fnExactMixBoxes", fn := fun _ => fun
  | [d1, d2] => { results := [.lit (.bool true)], args := [d1, d2] }
  | _ => none }
def fnExactMixBoxesRow : OpenClaim := { program := "ytknpcajignhifaa", sum := "56d4f147693740b80b6aafa4bae6edda076cdbb09bd8df2208d78c0396706939", func := "loop.example/g01141/laws.FnExactMixBoxes", spec := "fnExactMixBoxes", unfollowed := true, recurses := true, plainKeys := false, apart := false }
def FnExactMixBoxesSaid : Prop := fnExactMixBoxesRow.holds Try.pinned (OpenSpec.ofChange fnExactMixBoxesSpec)

/-- ITS FALSE NEIGHBOUR: 'it returns false'. Refute it at one input. -/
def fnExactMixBoxesWrong : ChangeSpec := { name := "fnExactMixBoxes", fn := fun _ => fun
  | [d1, d2] => { results := [.lit (.bool false)], args := [d1, d2] }
  | _ => none }
def FnExactMixBoxesWrongFalsely : Prop := fnExactMixBoxesRow.holds Try.pinned (OpenSpec.ofChange fnExactMixBoxesWrong)

/-- 'laws.FnExactReduceBox': WHATEVER THE INPUT: true; the input reads as it did. -/
def fnExactReduceBoxSpec : ChangeSpec := { name := "fnExactReduceBox", fn := fun _ => fun
  | [d] => { results := [.lit (.bool true)], args := [d] }
  | _ => none }
def fnExactReduceBoxRow : OpenClaim := { program := "ytknpcajignhifaa", sum := "56d4f147693740b80b6aafa4bae6edda076cdbb09bd8df2208d78c0396706939", func := "loop.example/g01141/laws.FnExactReduceBox", spec := "fnExactReduceBox", unfollowed := true, recurses := true, plainKeys := false, apart := false }
def FnExactReduceBoxSaid : Prop := fnExactReduceBoxRow.holds Try.pinned (OpenSpec.ofChange fnExactReduceBoxSpec)

/-- ITS FALSE NEIGHBOUR: 'it returns false'. Refute it at one input. -/
def fnExactReduceBoxWrong : ChangeSpec := { name := "fnExactReduceBox", fn := fun _ => fun
  | [d] => { results := [.lit (.bool false)], args := [d] }
  | _ => none }
def FnExactReduceBoxWrongFalsely : Prop := fnExactReduceBoxRow.holds Try.pinned (OpenSpec.ofChange fnExactReduceBoxWrong)

/-- 'laws.FnExactPlaysOf': WHATEVER THE INPUT: true; the input reads as it did. -/
def fnExactPlaysOfSpec : ChangeSpec := { name := "fnExactPlaysOf", fn := fun _ => fun
  | [d1, d2] => { results := [.lit (.bool true)], args := [d1, d2] }
  | _ => none }
def fnExactPlaysOfRow : OpenClaim := { program := "ytknpcajignhifaa", sum := "56d4f147693740b80b6aafa4bae6edda076cdbb09bd8df2208d78c0396706939", func := "loop.example/g01141/laws.FnExactPlaysOf", spec := "fnExactPlaysOf", plainKeys := false, apart := false }
def FnExactPlaysOfSaid : Prop := fnExactPlaysOfRow.holds Try.pinned (OpenSpec.ofChange fnExactPlaysOfSpec)

/-- ITS FALSE NEIGHBOUR: 'it returns false'. Refute it at one input. -/
def fnExactPlaysOfWrong : ChangeSpec := { name := "fnExactPlaysOf", fn := fun _ => fun
  | [d1, d2] => { results := [.lit (.bool false)], args := [d1, d2] }
  | _ => none }
def FnExactPlaysOfWrongFalsely : Prop := fnExactPlaysOfRow.holds Try.pinned (OpenSpec.ofChange fnExactPlaysOfWrong)

/-- 'laws.FnExactSumFunctional': WHATEVER THE INPUT: true; the input reads as it did. -/
def fnExactSumFunctionalSpec : ChangeSpec := { name := "fnExactSumFunctional", fn := fun _ => fun
  | [d1, d2, d3, d4, d5] => { results := [.lit (.bool true)], args := [d1, d2, d3, d4, d5] }
  | _ => none }
def fnExactSumFunctionalRow : OpenClaim := { program := "ytknpcajignhifaa", sum := "56d4f147693740b80b6aafa4bae6edda076cdbb09bd8df2208d78c0396706939", func := "loop.example/g01141/laws.FnExactSumFunctional", spec := "fnExactSumFunctional", plainKeys := false, apart := false }
def FnExactSumFunctionalSaid : Prop := fnExactSumFunctionalRow.holds Try.pinned (OpenSpec.ofChange fnExactSumFunctionalSpec)

/-- ITS FALSE NEIGHBOUR: 'it returns false'. Refute it at one input. -/
def fnExactSumFunctionalWrong : ChangeSpec := { name := "fnExactSumFunctional", fn := fun _ => fun
  | [d1, d2, d3, d4, d5] => { results := [.lit (.bool false)], args := [d1, d2, d3, d4, d5] }
  | _ => none }
def FnExactSumFunctionalWrongFalsely : Prop := fnExactSumFunctionalRow.holds Try.pinned (OpenSpec.ofChange fnExactSumFunctionalWrong)

/- THE SECOND FORM. 'bulk': how many values and letters a reading holds, each counted each time it is reached (what is shared counts as often as it is met; a slice's spare places count too). A statement '..UptoSaid' is the law's where the arguments, and the package variables that the reading takes, are together of bulk at most 1048576: NARROWER than '..Said'. Prove '..Said' where nothing that the law and all that it calls make is longer than what came in: it says more and counts as full. Else prove '..UptoSaid'. A law counts once. -/
mutual
def uptoBulk {H : Type} : DataW H → Nat
  | .lit (.string bytes) => bytes.length + 1
  | .lit _ => 1
  | .nil => 1
  | .ptr d => uptoBulk d + 1
  | .slice elems spare => uptoBulkAll elems + uptoBulkAll spare + 1
  | .agg parts => uptoBulkAll parts + 1
  | .iface _ d => uptoBulk d + 1
  | .map entries => uptoBulkEntries entries + 1
  | .held _ => 1
def uptoBulkAll {H : Type} : List (DataW H) → Nat
  | [] => 0
  | d :: r => uptoBulk d + uptoBulkAll r
def uptoBulkEntries {H : Type} : List (Lit × DataW H) → Nat
  | [] => 0
  | x :: r => uptoBulkEntry x + uptoBulkEntries r
def uptoBulkEntry {H : Type} : Lit × DataW H → Nat
  | (.string bytes, d) => bytes.length + uptoBulk d + 1
  | (_, d) => uptoBulk d + 1
 end
def uptoSmall : (H : Type) → List (DataW H) → Bool := fun _ ds => decide (uptoBulkAll ds ≤ 1048576)
def OpenSpec.upto (s : _root_.Go.ChangeSpec) : _root_.Go.OpenSpec := { _root_.Go.OpenSpec.ofChange s with cond := some uptoSmall }

/-- 'laws.FnExactFlipPlay', WHERE WHAT IT READS IS OF BULK AT MOST 1048576: true; the input reads as it did. -/
def fnExactFlipPlayUptoRow : OpenClaim := { program := "ytknpcajignhifaa", sum := "56d4f147693740b80b6aafa4bae6edda076cdbb09bd8df2208d78c0396706939", func := "loop.example/g01141/laws.FnExactFlipPlay", spec := "fnExactFlipPlay", plainKeys := false, apart := false, narrowed := true }
def FnExactFlipPlayUptoSaid : Prop := fnExactFlipPlayUptoRow.holds Try.pinned (OpenSpec.upto fnExactFlipPlaySpec)

/-- 'laws.FnExactSwapPlayers', WHERE WHAT IT READS IS OF BULK AT MOST 1048576: true; the input reads as it did. -/
def fnExactSwapPlayersUptoRow : OpenClaim := { program := "ytknpcajignhifaa", sum := "56d4f147693740b80b6aafa4bae6edda076cdbb09bd8df2208d78c0396706939", func := "loop.example/g01141/laws.FnExactSwapPlayers", spec := "fnExactSwapPlayers", unfollowed := true, recurses := true, plainKeys := false, apart := false, narrowed := true }
def FnExactSwapPlayersUptoSaid : Prop := fnExactSwapPlayersUptoRow.holds Try.pinned (OpenSpec.upto fnExactSwapPlayersSpec)

/-- 'laws.FnExactFlipAnswers', WHERE WHAT IT READS IS OF BULK AT MOST 1048576: true; the input reads as it did. -/
def fnExactFlipAnswersUptoRow : OpenClaim := { program := "ytknpcajignhifaa", sum := "56d4f147693740b80b6aafa4bae6edda076cdbb09bd8df2208d78c0396706939", func := "loop.example/g01141/laws.FnExactFlipAnswers", spec := "fnExactFlipAnswers", unfollowed := true, recurses := true, plainKeys := false, apart := false, narrowed := true }
def FnExactFlipAnswersUptoSaid : Prop := fnExactFlipAnswersUptoRow.holds Try.pinned (OpenSpec.upto fnExactFlipAnswersSpec)

/-- 'laws.FnExactAskAgain', WHERE WHAT IT READS IS OF BULK AT MOST 1048576: true; the input reads as it did. -/
def fnExactAskAgainUptoRow : OpenClaim := { program := "ytknpcajignhifaa", sum := "56d4f147693740b80b6aafa4bae6edda076cdbb09bd8df2208d78c0396706939", func := "loop.example/g01141/laws.FnExactAskAgain", spec := "fnExactAskAgain", unfollowed := true, recurses := true, plainKeys := false, apart := false, narrowed := true }
def FnExactAskAgainUptoSaid : Prop := fnExactAskAgainUptoRow.holds Try.pinned (OpenSpec.upto fnExactAskAgainSpec)

/-- 'laws.FnExactAreAlike', WHERE WHAT IT READS IS OF BULK AT MOST 1048576: true; the input reads as it did. -/
def fnExactAreAlikeUptoRow : OpenClaim := { program := "ytknpcajignhifaa", sum := "56d4f147693740b80b6aafa4bae6edda076cdbb09bd8df2208d78c0396706939", func := "loop.example/g01141/laws.FnExactAreAlike", spec := "fnExactAreAlike", plainKeys := false, apart := false, narrowed := true }
def FnExactAreAlikeUptoSaid : Prop := fnExactAreAlikeUptoRow.holds Try.pinned (OpenSpec.upto fnExactAreAlikeSpec)

/-- 'laws.FnExactWorthOf', WHERE WHAT IT READS IS OF BULK AT MOST 1048576: true; the input reads as it did. -/
def fnExactWorthOfUptoRow : OpenClaim := { program := "ytknpcajignhifaa", sum := "56d4f147693740b80b6aafa4bae6edda076cdbb09bd8df2208d78c0396706939", func := "loop.example/g01141/laws.FnExactWorthOf", spec := "fnExactWorthOf", plainKeys := false, apart := false, narrowed := true }
def FnExactWorthOfUptoSaid : Prop := fnExactWorthOfUptoRow.holds Try.pinned (OpenSpec.upto fnExactWorthOfSpec)

/-- 'laws.FnExactPlayWorth', WHERE WHAT IT READS IS OF BULK AT MOST 1048576: true; the input reads as it did. -/
def fnExactPlayWorthUptoRow : OpenClaim := { program := "ytknpcajignhifaa", sum := "56d4f147693740b80b6aafa4bae6edda076cdbb09bd8df2208d78c0396706939", func := "loop.example/g01141/laws.FnExactPlayWorth", spec := "fnExactPlayWorth", unfollowed := true, recurses := true, plainKeys := false, apart := false, narrowed := true }
def FnExactPlayWorthUptoSaid : Prop := fnExactPlayWorthUptoRow.holds Try.pinned (OpenSpec.upto fnExactPlayWorthSpec)

/-- 'laws.FnExactPlayOf', WHERE WHAT IT READS IS OF BULK AT MOST 1048576: true; the input reads as it did. -/
def fnExactPlayOfUptoRow : OpenClaim := { program := "ytknpcajignhifaa", sum := "56d4f147693740b80b6aafa4bae6edda076cdbb09bd8df2208d78c0396706939", func := "loop.example/g01141/laws.FnExactPlayOf", spec := "fnExactPlayOf", unfollowed := true, recurses := true, plainKeys := false, apart := false, narrowed := true }
def FnExactPlayOfUptoSaid : Prop := fnExactPlayOfUptoRow.holds Try.pinned (OpenSpec.upto fnExactPlayOfSpec)

/-- 'laws.FnExactMixBoxes', WHERE WHAT IT READS IS OF BULK AT MOST 1048576: true; the input reads as it did. -/
def fnExactMixBoxesUptoRow : OpenClaim := { program := "ytknpcajignhifaa", sum := "56d4f147693740b80b6aafa4bae6edda076cdbb09bd8df2208d78c0396706939", func := "loop.example/g01141/laws.FnExactMixBoxes", spec := "fnExactMixBoxes", unfollowed := true, recurses := true, plainKeys := false, apart := false, narrowed := true }
def FnExactMixBoxesUptoSaid : Prop := fnExactMixBoxesUptoRow.holds Try.pinned (OpenSpec.upto fnExactMixBoxesSpec)

/-- 'laws.FnExactReduceBox', WHERE WHAT IT READS IS OF BULK AT MOST 1048576: true; the input reads as it did. -/
def fnExactReduceBoxUptoRow : OpenClaim := { program := "ytknpcajignhifaa", sum := "56d4f147693740b80b6aafa4bae6edda076cdbb09bd8df2208d78c0396706939", func := "loop.example/g01141/laws.FnExactReduceBox", spec := "fnExactReduceBox", unfollowed := true, recurses := true, plainKeys := false, apart := false, narrowed := true }
def FnExactReduceBoxUptoSaid : Prop := fnExactReduceBoxUptoRow.holds Try.pinned (OpenSpec.upto fnExactReduceBoxSpec)

/-- 'laws.FnExactPlaysOf', WHERE WHAT IT READS IS OF BULK AT MOST 1048576: true; the input reads as it did. -/
def fnExactPlaysOfUptoRow : OpenClaim := { program := "ytknpcajignhifaa", sum := "56d4f147693740b80b6aafa4bae6edda076cdbb09bd8df2208d78c0396706939", func := "loop.example/g01141/laws.FnExactPlaysOf", spec := "fnExactPlaysOf", plainKeys := false, apart := false, narrowed := true }
def FnExactPlaysOfUptoSaid : Prop := fnExactPlaysOfUptoRow.holds Try.pinned (OpenSpec.upto fnExactPlaysOfSpec)

/-- 'laws.FnExactSumFunctional', WHERE WHAT IT READS IS OF BULK AT MOST 1048576: true; the input reads as it did. -/
def fnExactSumFunctionalUptoRow : OpenClaim := { program := "ytknpcajignhifaa", sum := "56d4f147693740b80b6aafa4bae6edda076cdbb09bd8df2208d78c0396706939", func := "loop.example/g01141/laws.FnExactSumFunctional", spec := "fnExactSumFunctional", plainKeys := false, apart := false, narrowed := true }
def FnExactSumFunctionalUptoSaid : Prop := fnExactSumFunctionalUptoRow.holds Try.pinned (OpenSpec.upto fnExactSumFunctionalSpec)

end Rows
end Go.Proofs.Ytknpcajignhifaa
