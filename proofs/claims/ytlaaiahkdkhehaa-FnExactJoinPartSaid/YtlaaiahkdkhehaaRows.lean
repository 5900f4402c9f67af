/-
  No cell of these rows narrows 'for every input' (looked for: loops, veiled, ifaces, maps, wideKeys, modest, calm, conditions, laid).
  DERIVED. THE GIVEN ROWS OF THIS SEAT. 12 by the template 'for every input the law returns true; each argument reads behind the call as it read before'; 0 by the template 'total and deterministic' (their statements: YtlaaiahkdkhehaaTotals.lean).
  GIVEN WITH THE SEED: the statements are not yours to turn. If you find one false, say at which input.
  Laid BY PROGRAM, IN A SANDBOX (cutbox-rows.mjs): the forced cells as the released guide's own fill.sh prints them over the translation 17264f752db2bde5… (all of the seat's roots in one cut). By AI agents, Wed Nov 11 2026. No macro, syntax, notation, axiom, sorry.
-/
import Derived.Test.YtlaaiahkdkhehaaChecked
import GoSem.Claim
import GoSem.ClaimJoined
import GoSem.ClaimMapViews
import Derived.JoinedTies
import Derived.KernelRfl
namespace Go.Proofs.Ytlaaiahkdkhehaa
/- THE CELL 'sum', in the pinned program and in every row, IS THE sha256 OF THE DUMP (.gsa) THAT YtlaaiahkdkhehaaProg.lean LOADS. Nothing in Lean hashes anything: it is a label: what it is worth is what the hold of that sum in a sandbox is worth. -/
noncomputable def Try.pinned : Pinned := { name := "ytlaaiahkdkhehaa", sum := "17264f752db2bde5b6b05e37f9c0e070ddf2d15d60f60084ee097954ebc4a4c2", checked := Try.checked }
namespace Rows
def none {H : Type} : Left H := { results := [], args := [] }

/-- 'laws.FnExactEqualSumBox': WHATEVER THE INPUT: true; the input reads as it did. -/
def fnExactEqualSumBoxSpec : ChangeSpec := { name := "fnExactEqualSumBox", fn := fun _ => fun
  | [d] => { results := [.lit (.bool true)], args := [d] }
  | _ => none }
def fnExactEqualSumBoxRow : OpenClaim := { program := "ytlaaiahkdkhehaa", sum := "17264f752db2bde5b6b05e37f9c0e070ddf2d15d60f60084ee097954ebc4a4c2", func := "loop.example/g01141/laws.FnExactEqualSumBox", spec := "fnExactEqualSumBox", unfollowed := true, recurses := true, apart := false }
def FnExactEqualSumBoxSaid : Prop := fnExactEqualSumBoxRow.holds Try.pinned (OpenSpec.ofChange fnExactEqualSumBoxSpec)

/-- ITS FALSE NEIGHBOUR: 'it returns false'. Refute it at one input. -/
def fnExactEqualSumBoxWrong : ChangeSpec := { name := "fnExactEqualSumBox", fn := fun _ => fun
  | [d] => { results := [.lit (.bool false)], args := [d] }
  | _ => none }
def FnExactEqualSumBoxWrongFalsely : Prop := fnExactEqualSumBoxRow.holds Try.pinned (OpenSpec.ofChange fnExactEqualSumBoxWrong)

/-- 'laws.FnExactExtremeBox': WHATEVER THE INPUT: true; the input reads as it did. -/
def fnExactExtremeBoxSpec : ChangeSpec := { name := "fnExactExtremeBox", fn := fun _ => fun
  | [d] => { results := [.lit (.bool true)], args := [d] }
  | _ => none }
def fnExactExtremeBoxRow : OpenClaim := { program := "ytlaaiahkdkhehaa", sum := "17264f752db2bde5b6b05e37f9c0e070ddf2d15d60f60084ee097954ebc4a4c2", func := "loop.example/g01141/laws.FnExactExtremeBox", spec := "fnExactExtremeBox", unfollowed := true, recurses := true, apart := false }
def FnExactExtremeBoxSaid : Prop := fnExactExtremeBoxRow.holds Try.pinned (OpenSpec.ofChange fnExactExtremeBoxSpec)

/-- ITS FALSE NEIGHBOUR: 'it returns false'. Refute it at one input. -/
def fnExactExtremeBoxWrong : ChangeSpec := { name := "fnExactExtremeBox", fn := fun _ => fun
  | [d] => { results := [.lit (.bool false)], args := [d] }
  | _ => none }
def FnExactExtremeBoxWrongFalsely : Prop := fnExactExtremeBoxRow.holds Try.pinned (OpenSpec.ofChange fnExactExtremeBoxWrong)

/-- 'laws.FnExactIsExtreme': WHATEVER THE INPUT: true; the input reads as it did. -/
def fnExactIsExtremeSpec : ChangeSpec := { name := "fnExactIsExtreme", fn := fun _ => fun
  | [d] => { results := [.lit (.bool true)], args := [d] }
  | _ => none }
def fnExactIsExtremeRow : OpenClaim := { program := "ytlaaiahkdkhehaa", sum := "17264f752db2bde5b6b05e37f9c0e070ddf2d15d60f60084ee097954ebc4a4c2", func := "loop.example/g01141/laws.FnExactIsExtreme", spec := "fnExactIsExtreme", unfollowed := true, recurses := true, apart := false }
def FnExactIsExtremeSaid : Prop := fnExactIsExtremeRow.holds Try.pinned (OpenSpec.ofChange fnExactIsExtremeSpec)

/-- ITS FALSE NEIGHBOUR: 'it returns false'. Refute it at one input. -/
def fnExactIsExtremeWrong : ChangeSpec := { name := "fnExactIsExtreme", fn := fun _ => fun
  | [d] => { results := [.lit (.bool false)], args := [d] }
  | _ => none }
def FnExactIsExtremeWrongFalsely : Prop := fnExactIsExtremeRow.holds Try.pinned (OpenSpec.ofChange fnExactIsExtremeWrong)

/-- 'laws.FnExactEightSums': WHATEVER THE INPUT: true; the input reads as it did. -/
def fnExactEightSumsSpec : ChangeSpec := { name := "fnExactEightSums", fn := fun _ => fun
  | [d] => { results := [.lit (.bool true)], args := [d] }
  | _ => none }
def fnExactEightSumsRow : OpenClaim := { program := "ytlaaiahkdkhehaa", sum := "17264f752db2bde5b6b05e37f9c0e070ddf2d15d60f60084ee097954ebc4a4c2", func := "loop.example/g01141/laws.FnExactEightSums", spec := "fnExactEightSums", apart := false }
def FnExactEightSumsSaid : Prop := fnExactEightSumsRow.holds Try.pinned (OpenSpec.ofChange fnExactEightSumsSpec)

/-- ITS FALSE NEIGHBOUR: 'it returns false'. Refute it at one input. -/
def fnExactEightSumsWrong : ChangeSpec := { name := "fnExactEightSums", fn := fun _ => fun
  | [d] => { results := [.lit (.bool false)], args := [d] }
  | _ => none }
def FnExactEightSumsWrongFalsely : Prop := fnExactEightSumsRow.holds Try.pinned (OpenSpec.ofChange fnExactEightSumsWrong)

/-- 'laws.FnExactPartOf': WHATEVER THE INPUT: true; the input reads as it did. -/
def fnExactPartOfSpec : ChangeSpec := { name := "fnExactPartOf", fn := fun _ => fun
  | [d] => { results := [.lit (.bool true)], args := [d] }
  | _ => none }
def fnExactPartOfRow : OpenClaim := { program := "ytlaaiahkdkhehaa", sum := "17264f752db2bde5b6b05e37f9c0e070ddf2d15d60f60084ee097954ebc4a4c2", func := "loop.example/g01141/laws.FnExactPartOf", spec := "fnExactPartOf", apart := false }
def FnExactPartOfSaid : Prop := fnExactPartOfRow.holds Try.pinned (OpenSpec.ofChange fnExactPartOfSpec)

/-- ITS FALSE NEIGHBOUR: 'it returns false'. Refute it at one input. -/
def fnExactPartOfWrong : ChangeSpec := { name := "fnExactPartOf", fn := fun _ => fun
  | [d] => { results := [.lit (.bool false)], args := [d] }
  | _ => none }
def FnExactPartOfWrongFalsely : Prop := fnExactPartOfRow.holds Try.pinned (OpenSpec.ofChange fnExactPartOfWrong)

/-- 'laws.FnExactRestOf': WHATEVER THE INPUT: true; the input reads as it did. -/
def fnExactRestOfSpec : ChangeSpec := { name := "fnExactRestOf", fn := fun _ => fun
  | [d] => { results := [.lit (.bool true)], args := [d] }
  | _ => none }
def fnExactRestOfRow : OpenClaim := { program := "ytlaaiahkdkhehaa", sum := "17264f752db2bde5b6b05e37f9c0e070ddf2d15d60f60084ee097954ebc4a4c2", func := "loop.example/g01141/laws.FnExactRestOf", spec := "fnExactRestOf", unfollowed := true, recurses := true, apart := false }
def FnExactRestOfSaid : Prop := fnExactRestOfRow.holds Try.pinned (OpenSpec.ofChange fnExactRestOfSpec)

/-- ITS FALSE NEIGHBOUR: 'it returns false'. Refute it at one input. -/
def fnExactRestOfWrong : ChangeSpec := { name := "fnExactRestOf", fn := fun _ => fun
  | [d] => { results := [.lit (.bool false)], args := [d] }
  | _ => none }
def FnExactRestOfWrongFalsely : Prop := fnExactRestOfRow.holds Try.pinned (OpenSpec.ofChange fnExactRestOfWrong)

/-- 'laws.FnExactJoinPart': WHATEVER THE INPUT: true; the input reads as it did. -/
def fnExactJoinPartSpec : ChangeSpec := { name := "fnExactJoinPart", fn := fun _ => fun
  | [d1, d2, d3] => { results := [.lit (.bool true)], args := [d1, d2, d3] }
  | _ => none }
def fnExactJoinPartRow : OpenClaim := { program := "ytlaaiahkdkhehaa", sum := "17264f752db2bde5b6b05e37f9c0e070ddf2d15d60f60084ee097954ebc4a4c2", func := "loop.example/g01141/laws.FnExactJoinPart", spec := "fnExactJoinPart", unfollowed := true, recurses := true, apart := false }
def FnExactJoinPartSaid : Prop := fnExactJoinPartRow.holds Try.pinned (OpenSpec.ofChange fnExactJoinPartSpec)

/-- ITS FALSE NEIGHBOUR: 'it returns false'. Refute it at one input. -/
def fnExactJoinPartWrong : ChangeSpec := { name := "fnExactJoinPart", fn := fun _ => fun
  | [d1, d2, d3] => { results := [.lit (.bool false)], args := [d1, d2, d3] }
  | _ => none }
def FnExactJoinPartWrongFalsely : Prop := fnExactJoinPartRow.holds Try.pinned (OpenSpec.ofChange fnExactJoinPartWrong)

/-- 'laws.FnExactNoisySum': WHATEVER THE INPUT: true; the input reads as it did. -/
def fnExactNoisySumSpec : ChangeSpec := { name := "fnExactNoisySum", fn := fun _ => fun
  | [d1, d2, d3] => { results := [.lit (.bool true)], args := [d1, d2, d3] }
  | _ => none }
def fnExactNoisySumRow : OpenClaim := { program := "ytlaaiahkdkhehaa", sum := "17264f752db2bde5b6b05e37f9c0e070ddf2d15d60f60084ee097954ebc4a4c2", func := "loop.example/g01141/laws.FnExactNoisySum", spec := "fnExactNoisySum", unfollowed := true, recurses := true, apart := false }
def FnExactNoisySumSaid : Prop := fnExactNoisySumRow.holds Try.pinned (OpenSpec.ofChange fnExactNoisySumSpec)

/-- ITS FALSE NEIGHBOUR: 'it returns false'. Refute it at one input. -/
def fnExactNoisySumWrong : ChangeSpec := { name := "fnExactNoisySum", fn := fun _ => fun
  | [d1, d2, d3] => { results := [.lit (.bool false)], args := [d1, d2, d3] }
  | _ => none }
def FnExactNoisySumWrongFalsely : Prop := fnExactNoisySumRow.holds Try.pinned (OpenSpec.ofChange fnExactNoisySumWrong)

/-- 'laws.FnExactIsEvenBox': WHATEVER THE INPUT: true; the input reads as it did. -/
def fnExactIsEvenBoxSpec : ChangeSpec := { name := "fnExactIsEvenBox", fn := fun _ => fun
  | [d] => { results := [.lit (.bool true)], args := [d] }
  | _ => none }
def fnExactIsEvenBoxRow : OpenClaim := { program := "ytlaaiahkdkhehaa", sum := "17264f752db2bde5b6b05e37f9c0e070ddf2d15d60f60084ee097954ebc4a4c2", func := "loop.example/g01141/laws.FnExactIsEvenBox", spec := "fnExactIsEvenBox", apart := false }
def FnExactIsEvenBoxSaid : Prop := fnExactIsEvenBoxRow.holds Try.pinned (OpenSpec.ofChange fnExactIsEvenBoxSpec)

/-- ITS FALSE NEIGHBOUR: 'it returns false'. Refute it at one input. -/
def fnExactIsEvenBoxWrong : ChangeSpec := { name := "fnExactIsEvenBox", fn := fun _ => fun
  | [d] => { results := [.lit (.bool false)], args := [d] }
  | _ => none }
def FnExactIsEvenBoxWrongFalsely : Prop := fnExactIsEvenBoxRow.holds Try.pinned (OpenSpec.ofChange fnExactIsEvenBoxWrong)

/-- 'laws.FnExactEvenOut': WHATEVER THE INPUT: true; the input reads as it did. -/
def fnExactEvenOutSpec : ChangeSpec := { name := "fnExactEvenOut", fn := fun _ => fun
  | [d] => { results := [.lit (.bool true)], args := [d] }
  | _ => none }
def fnExactEvenOutRow : OpenClaim := { program := "ytlaaiahkdkhehaa", sum := "17264f752db2bde5b6b05e37f9c0e070ddf2d15d60f60084ee097954ebc4a4c2", func := "loop.example/g01141/laws.FnExactEvenOut", spec := "fnExactEvenOut", unfollowed := true, recurses := true, apart := false }
def FnExactEvenOutSaid : Prop := fnExactEvenOutRow.holds Try.pinned (OpenSpec.ofChange fnExactEvenOutSpec)

/-- ITS FALSE NEIGHBOUR: 'it returns false'. Refute it at one input. -/
def fnExactEvenOutWrong : ChangeSpec := { name := "fnExactEvenOut", fn := fun _ => fun
  | [d] => { results := [.lit (.bool false)], args := [d] }
  | _ => none }
def FnExactEvenOutWrongFalsely : Prop := fnExactEvenOutRow.holds Try.pinned (OpenSpec.ofChange fnExactEvenOutWrong)

/-- 'laws.FnExactWorthRange': WHATEVER THE INPUT: true; the input reads as it did. -/
def fnExactWorthRangeSpec : ChangeSpec := { name := "fnExactWorthRange", fn := fun _ => fun
  | [d] => { results := [.lit (.bool true)], args := [d] }
  | _ => none }
def fnExactWorthRangeRow : OpenClaim := { program := "ytlaaiahkdkhehaa", sum := "17264f752db2bde5b6b05e37f9c0e070ddf2d15d60f60084ee097954ebc4a4c2", func := "loop.example/g01141/laws.FnExactWorthRange", spec := "fnExactWorthRange", unfollowed := true, recurses := true, apart := false }
def FnExactWorthRangeSaid : Prop := fnExactWorthRangeRow.holds Try.pinned (OpenSpec.ofChange fnExactWorthRangeSpec)

/-- ITS FALSE NEIGHBOUR: 'it returns false'. Refute it at one input. -/
def fnExactWorthRangeWrong : ChangeSpec := { name := "fnExactWorthRange", fn := fun _ => fun
  | [d] => { results := [.lit (.bool false)], args := [d] }
  | _ => none }
def FnExactWorthRangeWrongFalsely : Prop := fnExactWorthRangeRow.holds Try.pinned (OpenSpec.ofChange fnExactWorthRangeWrong)

/-- 'laws.FnExactQuietValue': WHATEVER THE INPUT: true; the input reads as it did. -/
def fnExactQuietValueSpec : ChangeSpec := { name := "fnExactQuietValue", fn := fun _ => fun
  | [d] => { results := [.lit (.bool true)], args := [d] }
  | _ => none }
def fnExactQuietValueRow : OpenClaim := { program := "ytlaaiahkdkhehaa", sum := "17264f752db2bde5b6b05e37f9c0e070ddf2d15d60f60084ee097954ebc4a4c2", func := "loop.example/g01141/laws.FnExactQuietValue", spec := "fnExactQuietValue", unfollowed := true, recurses := true, apart := false }
def FnExactQuietValueSaid : Prop := fnExactQuietValueRow.holds Try.pinned (OpenSpec.ofChange fnExactQuietValueSpec)

/-- ITS FALSE NEIGHBOUR: 'it returns false'. Refute it at one input. -/
def fnExactQuietValueWrong : ChangeSpec := { name := "fnExactQuietValue", fn := fun _ => fun
  | [d] => { results := [.lit (.bool false)], args := [d] }
  | _ => none }
def FnExactQuietValueWrongFalsely : Prop := fnExactQuietValueRow.holds Try.pinned (OpenSpec.ofChange fnExactQuietValueWrong)

/- THE SECOND FORM. 'bulk': how many values and letters a reading holds, each counted each time it is reached (what is shared counts as often as it is met; a slice's spare places count too). A statement '..UptoSaid' is the law's where the arguments, and the package variables that the reading takes, are together of bulk at most 1048576: NARROWER than '..Said'. Prove '..Said' where nothing that the law and all that it calls make is longer than what came in: it says more and counts as full. Else prove '..UptoSaid'. A law counts once. -/
mutual
def uptoBulk {H : Type} : DataW H → Nat
  | .lit (.string bytes) => bytes.length + 1
  | .lit _ => 1
  | .nil => 1
  | .ptr d => uptoBulk d + 1
  | .slice elems spare => uptoBulkAll elems + uptoBulkAll spare + 1
  | .agg parts => uptoBulkAll parts + 1
  | .iface _ d => uptoBulk d + 1
  | .map entries => uptoBulkEntries entries + 1
  | .held _ => 1
def uptoBulkAll {H : Type} : List (DataW H) → Nat
  | [] => 0
  | d :: r => uptoBulk d + uptoBulkAll r
def uptoBulkEntries {H : Type} : List (Lit × DataW H) → Nat
  | [] => 0
  | x :: r => uptoBulkEntry x + uptoBulkEntries r
def uptoBulkEntry {H : Type} : Lit × DataW H → Nat
  | (.string bytes, d) => bytes.length + uptoBulk d + 1
  | (_, d) => uptoBulk d + 1
 end
def uptoSmall : (H : Type) → List (DataW H) → Bool := fun _ ds => decide (uptoBulkAll ds ≤ 1048576)
def OpenSpec.upto (s : _root_.Go.ChangeSpec) : _root_.Go.OpenSpec := { _root_.Go.OpenSpec.ofChange s with cond := some uptoSmall }

/-- 'laws.FnExactEqualSumBox', WHERE WHAT IT READS IS OF BULK AT MOST 1048576: true; the input reads as it did. -/
def fnExactEqualSumBoxUptoRow : OpenClaim := { program := "ytlaaiahkdkhehaa", sum := "17264f752db2bde5b6b05e37f9c0e070ddf2d15d60f60084ee097954ebc4a4c2", func := "loop.example/g01141/laws.FnExactEqualSumBox", spec := "fnExactEqualSumBox", unfollowed := true, recurses := true, apart := false, narrowed := true }
def FnExactEqualSumBoxUptoSaid : Prop := fnExactEqualSumBoxUptoRow.holds Try.pinned (OpenSpec.upto fnExactEqualSumBoxSpec)

/-- 'laws.FnExactExtremeBox', WHERE WHAT IT READS IS OF BULK AT MOST 1048576: true; the input reads as it did. -/
def fnExactExtremeBoxUptoRow : OpenClaim := { program := "ytlaaiahkdkhehaa", sum := "17264f752db2bde5b6b05e37f9c0e070ddf2d15d60f60084ee097954ebc4a4c2", func := "loop.example/g01141/laws.FnExactExtremeBox", spec := "fnExactExtremeBox", unfollowed := true, recurses := true, apart := false, narrowed := true }
def FnExactExtremeBoxUptoSaid : Prop := fnExactExtremeBoxUptoRow.holds Try.pinned (OpenSpec.upto fnExactExtremeBoxSpec)

/-- 'laws.FnExactIsExtreme', WHERE WHAT IT READS IS OF BULK AT MOST 1048576: true; the input reads as it did. -/
def fnExactIsExtremeUptoRow : OpenClaim := { program := "ytlaaiahkdkhehaa", sum := "17264f752db2bde5b6b05e37f9c0e070ddf2d15d60f60084ee097954ebc4a4c2", func := "loop.example/g01141/laws.FnExactIsExtreme", spec := "fnExactIsExtreme", unfollowed := true, recurses := true, apart := false, narrowed := true }
def FnExactIsExtremeUptoSaid : Prop := fnExactIsExtremeUptoRow.holds Try.pinned (OpenSpec.upto fnExactIsExtremeSpec)

/-- 'laws.FnExactEightSums', WHERE WHAT IT READS IS OF BULK AT MOST 1048576: true; the input reads as it did. -/
def fnExactEightSumsUptoRow : OpenClaim := { program := "ytlaaiahkdkhehaa", sum := "17264f752db2bde5b6b05e37f9c0e070ddf2d15d60f60084ee097954ebc4a4c2", func := "loop.example/g01141/laws.FnExactEightSums", spec := "fnExactEightSums", apart := false, narrowed := true }
def FnExactEightSumsUptoSaid : Prop := fnExactEightSumsUptoRow.holds Try.pinned (OpenSpec.upto fnExactEightSumsSpec)

/-- 'laws.FnExactPartOf', WHERE WHAT IT READS IS OF BULK AT MOST 1048576: true; the input reads as it did. -/
def fnExactPartOfUptoRow : OpenClaim := { program := "ytlaaiahkdkhehaa", sum := "17264f752db2bde5b6b05e37f9c0e070ddf2d15d60f60084ee097954ebc4a4c2", func := "loop.example/g01141/laws.FnExactPartOf", spec := "fnExactPartOf", apart := false, narrowed := true }
def FnExactPartOfUptoSaid : Prop := fnExactPartOfUptoRow.holds Try.pinned (OpenSpec.upto fnExactPartOfSpec)

/-- 'laws.FnExactRestOf', WHERE WHAT IT READS IS OF BULK AT MOST 1048576: true; the input reads as it did. -/
def fnExactRestOfUptoRow : OpenClaim := { program := "ytlaaiahkdkhehaa", sum := "17264f752db2bde5b6b05e37f9c0e070ddf2d15d60f60084ee097954ebc4a4c2", func := "loop.example/g01141/laws.FnExactRestOf", spec := "fnExactRestOf", unfollowed := true, recurses := true, apart := false, narrowed := true }
def FnExactRestOfUptoSaid : Prop := fnExactRestOfUptoRow.holds Try.pinned (OpenSpec.upto fnExactRestOfSpec)

/-- 'laws.FnExactJoinPart', WHERE WHAT IT READS IS OF BULK AT MOST 1048576: true; the input reads as it did. -/
def fnExactJoinPartUptoRow : OpenClaim := { program := "ytlaaiahkdkhehaa", sum := "17264f752db2bde5b6b05e37f9c0e070ddf2d15d60f60084ee097954ebc4a4c2", func := "loop.example/g01141/laws.FnExactJoinPart", spec := "fnExactJoinPart", unfollowed := true, recurses := true, apart := false, narrowed := true }
def FnExactJoinPartUptoSaid : Prop := fnExactJoinPartUptoRow.holds Try.pinned (OpenSpec.upto fnExactJoinPartSpec)

/-- 'laws.FnExactNoisySum', WHERE WHAT IT READS IS OF BULK AT MOST 1048576: true; the input reads as it did. -/
def fnExactNoisySumUptoRow : OpenClaim := { program := "ytlaaiahkdkhehaa", sum := "17264f752db2bde5b6b05e37f9c0e070ddf2d15d60f60084ee097954ebc4a4c2", func := "loop.example/g01141/laws.FnExactNoisySum", spec := "fnExactNoisySum", unfollowed := true, recurses := true, apart := false, narrowed := true }
def FnExactNoisySumUptoSaid : Prop := fnExactNoisySumUptoRow.holds Try.pinned (OpenSpec.upto fnExactNoisySumSpec)

/-- 'laws.FnExactIsEvenBox', WHERE WHAT IT READS IS OF BULK AT MOST 1048576: true; the input reads as it did. -/
def fnExactIsEvenBoxUptoRow : OpenClaim := { program := "ytlaaiahkdkhehaa", sum := "17264f752db2bde5b6b05e37f9c0e070ddf2d15d60f60084ee097954ebc4a4c2", func := "loop.example/g01141/laws.FnExactIsEvenBox", spec := "fnExactIsEvenBox", apart := false, narrowed := true }
def FnExactIsEvenBoxUptoSaid : Prop := fnExactIsEvenBoxUptoRow.holds Try.pinned (OpenSpec.upto fnExactIsEvenBoxSpec)

/-- 'laws.FnExactEvenOut', WHERE WHAT IT READS IS OF BULK AT MOST 1048576: true; the input reads as it did. -/
def fnExactEvenOutUptoRow : OpenClaim := { program := "ytlaaiahkdkhehaa", sum := "17264f752db2bde5b6b05e37f9c0e070ddf2d15d60f60084ee097954ebc4a4c2", func := "loop.example/g01141/laws.FnExactEvenOut", spec := "fnExactEvenOut", unfollowed := true, recurses := true, apart := false, narrowed := true }
def FnExactEvenOutUptoSaid : Prop := fnExactEvenOutUptoRow.holds Try.pinned (OpenSpec.upto fnExactEvenOutSpec)

/-- 'laws.FnExactWorthRange', WHERE WHAT IT READS IS OF BULK AT MOST 1048576: true; the input reads as it did. -/
def fnExactWorthRangeUptoRow : OpenClaim := { program := "ytlaaiahkdkhehaa", sum := "17264f752db2bde5b6b05e37f9c0e070ddf2d15d60f60084ee097954ebc4a4c2", func := "loop.example/g01141/laws.FnExactWorthRange", spec := "fnExactWorthRange", unfollowed := true, recurses := true, apart := false, narrowed := true }
def FnExactWorthRangeUptoSaid : Prop := fnExactWorthRangeUptoRow.holds Try.pinned (OpenSpec.upto fnExactWorthRangeSpec)

/-- 'laws.FnExactQuietValue', WHERE WHAT IT READS IS OF BULK AT MOST 1048576: true; the input reads as it did. -/
def fnExactQuietValueUptoRow : OpenClaim := { program := "ytlaaiahkdkhehaa", sum := "17264f752db2bde5b6b05e37f9c0e070ddf2d15d60f60084ee097954ebc4a4c2", func := "loop.example/g01141/laws.FnExactQuietValue", spec := "fnExactQuietValue", unfollowed := true, recurses := true, apart := false, narrowed := true }
def FnExactQuietValueUptoSaid : Prop := fnExactQuietValueUptoRow.holds Try.pinned (OpenSpec.upto fnExactQuietValueSpec)

end Rows
end Go.Proofs.Ytlaaiahkdkhehaa
