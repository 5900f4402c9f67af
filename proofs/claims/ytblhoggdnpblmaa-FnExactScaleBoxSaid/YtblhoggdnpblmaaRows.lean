/-
  No cell of these rows narrows 'for every input' (looked for: loops, veiled, ifaces, maps, wideKeys, modest, calm, conditions, laid).
  DERIVED. THE GIVEN ROWS OF THIS SEAT. 12 by the template 'for every input the law returns true; each argument reads behind the call as it read before'; 0 by the template 'total and deterministic' (their statements: YtblhoggdnpblmaaTotals.lean).
  GIVEN WITH THE SEED: the statements are not yours to turn. If you find one false, say at which input.
  Laid BY PROGRAM, IN A SANDBOX (cutbox-rows.mjs): the forced cells as the released guide's own fill.sh prints them over the translation 7b32f8d80ed8b838… (all of the seat's roots in one cut). By AI agents, Wed Nov 11 2026. No macro, syntax, notation, axiom, sorry.
-/
import Derived.Test.YtblhoggdnpblmaaChecked
import GoSem.Claim
import GoSem.ClaimJoined
import GoSem.ClaimMapViews
import Derived.JoinedTies
import Derived.KernelRfl
namespace Go.Proofs.Ytblhoggdnpblmaa
/- THE CELL 'sum', in the pinned program and in every row, IS THE sha256 OF THE DUMP (.gsa) THAT YtblhoggdnpblmaaProg.lean LOADS. Nothing in Lean hashes anything: it is a label: what it is worth is what the hold of that sum in a sandbox is worth. -/
noncomputable def Try.pinned : Pinned := { name := "ytblhoggdnpblmaa", sum := "7b32f8d80ed8b8382f8f56c7b6fb293cbb1a9e5326297203c732ff587108029d", checked := Try.checked }
namespace Rows
def none {H : Type} : Left H := { results := [], args := [] }

/-- 'laws.FnExactIsBox': WHATEVER THE INPUT: true; the input reads as it did. -/
def fnExactIsBoxSpec : ChangeSpec := { name := "fnExactIsBox", fn := fun _ => fun
  | [d] => { results := [.lit (.bool true)], args := [d] }
  | _ => none }
def fnExactIsBoxRow : OpenClaim := { program := "ytblhoggdnpblmaa", sum := "7b32f8d80ed8b8382f8f56c7b6fb293cbb1a9e5326297203c732ff587108029d", func := "loop.example/g01141/laws.FnExactIsBox", spec := "fnExactIsBox", apart := false }
def FnExactIsBoxSaid : Prop := fnExactIsBoxRow.holds Try.pinned (OpenSpec.ofChange fnExactIsBoxSpec)

/-- ITS FALSE NEIGHBOUR: 'it returns false'. Refute it at one input. -/
def fnExactIsBoxWrong : ChangeSpec := { name := "fnExactIsBox", fn := fun _ => fun
  | [d] => { results := [.lit (.bool false)], args := [d] }
  | _ => none }
def FnExactIsBoxWrongFalsely : Prop := fnExactIsBoxRow.holds Try.pinned (OpenSpec.ofChange fnExactIsBoxWrong)

/-- 'laws.FnExactIsQuiet': WHATEVER THE INPUT: true; the input reads as it did. -/
def fnExactIsQuietSpec : ChangeSpec := { name := "fnExactIsQuiet", fn := fun _ => fun
  | [d] => { results := [.lit (.bool true)], args := [d] }
  | _ => none }
def fnExactIsQuietRow : OpenClaim := { program := "ytblhoggdnpblmaa", sum := "7b32f8d80ed8b8382f8f56c7b6fb293cbb1a9e5326297203c732ff587108029d", func := "loop.example/g01141/laws.FnExactIsQuiet", spec := "fnExactIsQuiet", apart := false }
def FnExactIsQuietSaid : Prop := fnExactIsQuietRow.holds Try.pinned (OpenSpec.ofChange fnExactIsQuietSpec)

/-- ITS FALSE NEIGHBOUR: 'it returns false'. Refute it at one input. -/
def fnExactIsQuietWrong : ChangeSpec := { name := "fnExactIsQuiet", fn := fun _ => fun
  | [d] => { results := [.lit (.bool false)], args := [d] }
  | _ => none }
def FnExactIsQuietWrongFalsely : Prop := fnExactIsQuietRow.holds Try.pinned (OpenSpec.ofChange fnExactIsQuietWrong)

/-- 'laws.FnExactFirstLoud': WHATEVER THE INPUT: true; the input reads as it did. -/
def fnExactFirstLoudSpec : ChangeSpec := { name := "fnExactFirstLoud", fn := fun _ => fun
  | [d] => { results := [.lit (.bool true)], args := [d] }
  | _ => none }
def fnExactFirstLoudRow : OpenClaim := { program := "ytblhoggdnpblmaa", sum := "7b32f8d80ed8b8382f8f56c7b6fb293cbb1a9e5326297203c732ff587108029d", func := "loop.example/g01141/laws.FnExactFirstLoud", spec := "fnExactFirstLoud", apart := false }
def FnExactFirstLoudSaid : Prop := fnExactFirstLoudRow.holds Try.pinned (OpenSpec.ofChange fnExactFirstLoudSpec)

/-- ITS FALSE NEIGHBOUR: 'it returns false'. Refute it at one input. -/
def fnExactFirstLoudWrong : ChangeSpec := { name := "fnExactFirstLoud", fn := fun _ => fun
  | [d] => { results := [.lit (.bool false)], args := [d] }
  | _ => none }
def FnExactFirstLoudWrongFalsely : Prop := fnExactFirstLoudRow.holds Try.pinned (OpenSpec.ofChange fnExactFirstLoudWrong)

/-- 'laws.FnExactAnswerCounts': WHATEVER THE INPUT: true; the input reads as it did. -/
def fnExactAnswerCountsSpec : ChangeSpec := { name := "fnExactAnswerCounts", fn := fun _ => fun
  | [d] => { results := [.lit (.bool true)], args := [d] }
  | _ => none }
def fnExactAnswerCountsRow : OpenClaim := { program := "ytblhoggdnpblmaa", sum := "7b32f8d80ed8b8382f8f56c7b6fb293cbb1a9e5326297203c732ff587108029d", func := "loop.example/g01141/laws.FnExactAnswerCounts", spec := "fnExactAnswerCounts", apart := false }
def FnExactAnswerCountsSaid : Prop := fnExactAnswerCountsRow.holds Try.pinned (OpenSpec.ofChange fnExactAnswerCountsSpec)

/-- ITS FALSE NEIGHBOUR: 'it returns false'. Refute it at one input. -/
def fnExactAnswerCountsWrong : ChangeSpec := { name := "fnExactAnswerCounts", fn := fun _ => fun
  | [d] => { results := [.lit (.bool false)], args := [d] }
  | _ => none }
def FnExactAnswerCountsWrongFalsely : Prop := fnExactAnswerCountsRow.holds Try.pinned (OpenSpec.ofChange fnExactAnswerCountsWrong)

/-- 'laws.FnExactAgreementsOf': WHATEVER THE INPUT: true; the input reads as it did. -/
def fnExactAgreementsOfSpec : ChangeSpec := { name := "fnExactAgreementsOf", fn := fun _ => fun
  | [d] => { results := [.lit (.bool true)], args := [d] }
  | _ => none }
def fnExactAgreementsOfRow : OpenClaim := { program := "ytblhoggdnpblmaa", sum := "7b32f8d80ed8b8382f8f56c7b6fb293cbb1a9e5326297203c732ff587108029d", func := "loop.example/g01141/laws.FnExactAgreementsOf", spec := "fnExactAgreementsOf", apart := false }
def FnExactAgreementsOfSaid : Prop := fnExactAgreementsOfRow.holds Try.pinned (OpenSpec.ofChange fnExactAgreementsOfSpec)

/-- ITS FALSE NEIGHBOUR: 'it returns false'. Refute it at one input. -/
def fnExactAgreementsOfWrong : ChangeSpec := { name := "fnExactAgreementsOf", fn := fun _ => fun
  | [d] => { results := [.lit (.bool false)], args := [d] }
  | _ => none }
def FnExactAgreementsOfWrongFalsely : Prop := fnExactAgreementsOfRow.holds Try.pinned (OpenSpec.ofChange fnExactAgreementsOfWrong)

/-- 'laws.FnExactIsPlay': WHATEVER THE INPUT: true; the input reads as it did. -/
def fnExactIsPlaySpec : ChangeSpec := { name := "fnExactIsPlay", fn := fun _ => fun
  | [d1, d2, d3] => { results := [.lit (.bool true)], args := [d1, d2, d3] }
  | _ => none }
def fnExactIsPlayRow : OpenClaim := { program := "ytblhoggdnpblmaa", sum := "7b32f8d80ed8b8382f8f56c7b6fb293cbb1a9e5326297203c732ff587108029d", func := "loop.example/g01141/laws.FnExactIsPlay", spec := "fnExactIsPlay", apart := false }
def FnExactIsPlaySaid : Prop := fnExactIsPlayRow.holds Try.pinned (OpenSpec.ofChange fnExactIsPlaySpec)

/-- ITS FALSE NEIGHBOUR: 'it returns false'. Refute it at one input. -/
def fnExactIsPlayWrong : ChangeSpec := { name := "fnExactIsPlay", fn := fun _ => fun
  | [d1, d2, d3] => { results := [.lit (.bool false)], args := [d1, d2, d3] }
  | _ => none }
def FnExactIsPlayWrongFalsely : Prop := fnExactIsPlayRow.holds Try.pinned (OpenSpec.ofChange fnExactIsPlayWrong)

/-- 'laws.FnExactPlayBox': WHATEVER THE INPUT: true; the input reads as it did. -/
def fnExactPlayBoxSpec : ChangeSpec := { name := "fnExactPlayBox", fn := fun _ => fun
  | [d1, d2, d3, d4] => { results := [.lit (.bool true)], args := [d1, d2, d3, d4] }
  | _ => none }
def fnExactPlayBoxRow : OpenClaim := { program := "ytblhoggdnpblmaa", sum := "7b32f8d80ed8b8382f8f56c7b6fb293cbb1a9e5326297203c732ff587108029d", func := "loop.example/g01141/laws.FnExactPlayBox", spec := "fnExactPlayBox", unfollowed := true, recurses := true, apart := false }
def FnExactPlayBoxSaid : Prop := fnExactPlayBoxRow.holds Try.pinned (OpenSpec.ofChange fnExactPlayBoxSpec)

/-- ITS FALSE NEIGHBOUR: 'it returns false'. Refute it at one input. -/
def fnExactPlayBoxWrong : ChangeSpec := { name := "fnExactPlayBox", fn := fun _ => fun
  | [d1, d2, d3, d4] => { results := [.lit (.bool false)], args := [d1, d2, d3, d4] }
  | _ => none }
def FnExactPlayBoxWrongFalsely : Prop := fnExactPlayBoxRow.holds Try.pinned (OpenSpec.ofChange fnExactPlayBoxWrong)

/-- 'laws.FnExactNoiseBox': WHATEVER THE INPUT: true; the input reads as it did. -/
def fnExactNoiseBoxSpec : ChangeSpec := { name := "fnExactNoiseBox", fn := fun _ => fun
  | [d1, d2, d3] => { results := [.lit (.bool true)], args := [d1, d2, d3] }
  | _ => none }
def fnExactNoiseBoxRow : OpenClaim := { program := "ytblhoggdnpblmaa", sum := "7b32f8d80ed8b8382f8f56c7b6fb293cbb1a9e5326297203c732ff587108029d", func := "loop.example/g01141/laws.FnExactNoiseBox", spec := "fnExactNoiseBox", unfollowed := true, recurses := true, apart := false }
def FnExactNoiseBoxSaid : Prop := fnExactNoiseBoxRow.holds Try.pinned (OpenSpec.ofChange fnExactNoiseBoxSpec)

/-- ITS FALSE NEIGHBOUR: 'it returns false'. Refute it at one input. -/
def fnExactNoiseBoxWrong : ChangeSpec := { name := "fnExactNoiseBox", fn := fun _ => fun
  | [d1, d2, d3] => { results := [.lit (.bool false)], args := [d1, d2, d3] }
  | _ => none }
def FnExactNoiseBoxWrongFalsely : Prop := fnExactNoiseBoxRow.holds Try.pinned (OpenSpec.ofChange fnExactNoiseBoxWrong)

/-- 'laws.FnExactProductBox': WHATEVER THE INPUT: true; the input reads as it did. -/
def fnExactProductBoxSpec : ChangeSpec := { name := "fnExactProductBox", fn := fun _ => fun
  | [d1, d2, d3] => { results := [.lit (.bool true)], args := [d1, d2, d3] }
  | _ => none }
def fnExactProductBoxRow : OpenClaim := { program := "ytblhoggdnpblmaa", sum := "7b32f8d80ed8b8382f8f56c7b6fb293cbb1a9e5326297203c732ff587108029d", func := "loop.example/g01141/laws.FnExactProductBox", spec := "fnExactProductBox", unfollowed := true, recurses := true, apart := false }
def FnExactProductBoxSaid : Prop := fnExactProductBoxRow.holds Try.pinned (OpenSpec.ofChange fnExactProductBoxSpec)

/-- ITS FALSE NEIGHBOUR: 'it returns false'. Refute it at one input. -/
def fnExactProductBoxWrong : ChangeSpec := { name := "fnExactProductBox", fn := fun _ => fun
  | [d1, d2, d3] => { results := [.lit (.bool false)], args := [d1, d2, d3] }
  | _ => none }
def FnExactProductBoxWrongFalsely : Prop := fnExactProductBoxRow.holds Try.pinned (OpenSpec.ofChange fnExactProductBoxWrong)

/-- 'laws.FnExactMixBoxes': WHATEVER THE INPUT: true; the input reads as it did. -/
def fnExactMixBoxesSpec : ChangeSpec := { name := "fnExactMixBoxes", fn := fun _ => fun
  | [d1, d2] => { results := [.lit (.bool true)], args := [d1, d2] }
  | _ => none }
def fnExactMixBoxesRow : OpenClaim := { program := "ytblhoggdnpblmaa", sum := "7b32f8d80ed8b8382f8f56c7b6fb293cbb1a9e5326297203c732ff587108029d", func := "loop.example/g01141/laws.FnExactMixBoxes", spec := "fnExactMixBoxes", unfollowed := true, recurses := true, apart := false }
def FnExactMixBoxesSaid : Prop := fnExactMixBoxesRow.holds Try.pinned (OpenSpec.ofChange fnExactMixBoxesSpec)

/-- ITS FALSE NEIGHBOUR: 'it returns false'. Refute it at one input. -/
def fnExactMixBoxesWrong : ChangeSpec := { name := "fnExactMixBoxes", fn := fun _ => fun
  | [d1, d2] => { results := [.lit (.bool false)], args := [d1, d2] }
  | _ => none }
def FnExactMixBoxesWrongFalsely : Prop := fnExactMixBoxesRow.holds Try.pinned (OpenSpec.ofChange fnExactMixBoxesWrong)

/-- 'laws.FnExactScaleBox': WHATEVER THE INPUT: true; the input reads as it did. -/
def fnExactScaleBoxSpec : ChangeSpec := { name := "fnExactScaleBox", fn := fun _ => fun
  | [d1, d2] => { results := [.lit (.bool true)], args := [d1, d2] }
  | _ => none }
def fnExactScaleBoxRow : OpenClaim := { program := "ytblhoggdnpblmaa", sum := "7b32f8d80ed8b8382f8f56c7b6fb293cbb1a9e5326297203c732ff587108029d", func := "loop.example/g01141/laws.FnExactScaleBox", spec := "fnExactScaleBox", unfollowed := true, recurses := true, apart := false }
def FnExactScaleBoxSaid : Prop := fnExactScaleBoxRow.holds Try.pinned (OpenSpec.ofChange fnExactScaleBoxSpec)

/-- ITS FALSE NEIGHBOUR: 'it returns false'. Refute it at one input. -/
def fnExactScaleBoxWrong : ChangeSpec := { name := "fnExactScaleBox", fn := fun _ => fun
  | [d1, d2] => { results := [.lit (.bool false)], args := [d1, d2] }
  | _ => none }
def FnExactScaleBoxWrongFalsely : Prop := fnExactScaleBoxRow.holds Try.pinned (OpenSpec.ofChange fnExactScaleBoxWrong)

/-- 'laws.FnExactReduceBox': WHATEVER THE INPUT: true; the input reads as it did. -/
def fnExactReduceBoxSpec : ChangeSpec := { name := "fnExactReduceBox", fn := fun _ => fun
  | [d] => { results := [.lit (.bool true)], args := [d] }
  | _ => none }
def fnExactReduceBoxRow : OpenClaim := { program := "ytblhoggdnpblmaa", sum := "7b32f8d80ed8b8382f8f56c7b6fb293cbb1a9e5326297203c732ff587108029d", func := "loop.example/g01141/laws.FnExactReduceBox", spec := "fnExactReduceBox", unfollowed := true, recurses := true, apart := false }
def FnExactReduceBoxSaid : Prop := fnExactReduceBoxRow.holds Try.pinned (OpenSpec.ofChange fnExactReduceBoxSpec)

/-- ITS FALSE NEIGHBOUR: 'it returns false'. Refute it at one input. -/
def fnExactReduceBoxWrong : ChangeSpec := { name := "fnExactReduceBox", fn := fun _ => fun
  | [d] => { results := [.lit (.bool false)], args := [d] }
  | _ => none }
def FnExactReduceBoxWrongFalsely : Prop := fnExactReduceBoxRow.holds Try.pinned (OpenSpec.ofChange fnExactReduceBoxWrong)

/- THE SECOND FORM. 'bulk': how many values and letters a reading holds, each counted each time it is reached (what is shared counts as often as it is met; a slice's spare places count too). A statement '..UptoSaid' is the law's where the arguments, and the package variables that the reading takes, are together of bulk at most 1048576: NARROWER than '..Said'. Prove '..Said' where nothing that the law and all that it calls make is longer than what came in: it says more and counts as full. Else prove '..UptoSaid'. A law counts once. -/
mutual
def uptoBulk {H : Type} : DataW H → Nat
  | .lit (.string bytes) => bytes.length + 1
  | .lit _ => 1
  | .nil => 1
  | .ptr d => uptoBulk d + 1
  | .slice elems spare => uptoBulkAll elems + uptoBulkAll spare + 1
  | .agg parts => uptoBulkAll parts + 1
  | .iface _ d => uptoBulk d + 1
  | .map entries => uptoBulkEntries entries + 1
  | .held _ => 1
def uptoBulkAll {H : Type} : List (DataW H) → Nat
  | [] => 0
  | d :: r => uptoBulk d + uptoBulkAll r
def uptoBulkEntries {H : Type} : List (Lit × DataW H) → Nat
  | [] => 0
  | x :: r => uptoBulkEntry x + uptoBulkEntries r
def uptoBulkEntry {H : Type} : Lit × DataW H → Nat
  | (.string bytes, d) => bytes.length + uptoBulk d + 1
  | (_, d) => uptoBulk d + 1
 end
def uptoSmall : (H : Type) → List (DataW H) → Bool := fun _ ds => decide (uptoBulkAll ds ≤ 1048576)
def OpenSpec.upto (s : _root_.Go.ChangeSpec) : _root_.Go.OpenSpec := { _root_.Go.OpenSpec.ofChange s with cond := some uptoSmall }

/-- 'laws.FnExactIsBox', WHERE WHAT IT READS IS OF BULK AT MOST 1048576: true; the input reads as it did. -/
def fnExactIsBoxUptoRow : OpenClaim := { program := "ytblhoggdnpblmaa", sum := "7b32f8d80ed8b8382f8f56c7b6fb293cbb1a9e5326297203c732ff587108029d", func := "loop.example/g01141/laws.FnExactIsBox", spec := "fnExactIsBox", apart := false, narrowed := true }
def FnExactIsBoxUptoSaid : Prop := fnExactIsBoxUptoRow.holds Try.pinned (OpenSpec.upto fnExactIsBoxSpec)

/-- 'laws.FnExactIsQuiet', WHERE WHAT IT READS IS OF BULK AT MOST 1048576: true; the input reads as it did. -/
def fnExactIsQuietUptoRow : OpenClaim := { program := "ytblhoggdnpblmaa", sum := "7b32f8d80ed8b8382f8f56c7b6fb293cbb1a9e5326297203c732ff587108029d", func := "loop.example/g01141/laws.FnExactIsQuiet", spec := "fnExactIsQuiet", apart := false, narrowed := true }
def FnExactIsQuietUptoSaid : Prop := fnExactIsQuietUptoRow.holds Try.pinned (OpenSpec.upto fnExactIsQuietSpec)

/-- 'laws.FnExactFirstLoud', WHERE WHAT IT READS IS OF BULK AT MOST 1048576: true; the input reads as it did. -/
def fnExactFirstLoudUptoRow : OpenClaim := { program := "ytblhoggdnpblmaa", sum := "7b32f8d80ed8b8382f8f56c7b6fb293cbb1a9e5326297203c732ff587108029d", func := "loop.example/g01141/laws.FnExactFirstLoud", spec := "fnExactFirstLoud", apart := false, narrowed := true }
def FnExactFirstLoudUptoSaid : Prop := fnExactFirstLoudUptoRow.holds Try.pinned (OpenSpec.upto fnExactFirstLoudSpec)

/-- 'laws.FnExactAnswerCounts', WHERE WHAT IT READS IS OF BULK AT MOST 1048576: true; the input reads as it did. -/
def fnExactAnswerCountsUptoRow : OpenClaim := { program := "ytblhoggdnpblmaa", sum := "7b32f8d80ed8b8382f8f56c7b6fb293cbb1a9e5326297203c732ff587108029d", func := "loop.example/g01141/laws.FnExactAnswerCounts", spec := "fnExactAnswerCounts", apart := false, narrowed := true }
def FnExactAnswerCountsUptoSaid : Prop := fnExactAnswerCountsUptoRow.holds Try.pinned (OpenSpec.upto fnExactAnswerCountsSpec)

/-- 'laws.FnExactAgreementsOf', WHERE WHAT IT READS IS OF BULK AT MOST 1048576: true; the input reads as it did. -/
def fnExactAgreementsOfUptoRow : OpenClaim := { program := "ytblhoggdnpblmaa", sum := "7b32f8d80ed8b8382f8f56c7b6fb293cbb1a9e5326297203c732ff587108029d", func := "loop.example/g01141/laws.FnExactAgreementsOf", spec := "fnExactAgreementsOf", apart := false, narrowed := true }
def FnExactAgreementsOfUptoSaid : Prop := fnExactAgreementsOfUptoRow.holds Try.pinned (OpenSpec.upto fnExactAgreementsOfSpec)

/-- 'laws.FnExactIsPlay', WHERE WHAT IT READS IS OF BULK AT MOST 1048576: true; the input reads as it did. -/
def fnExactIsPlayUptoRow : OpenClaim := { program := "ytblhoggdnpblmaa", sum := "7b32f8d80ed8b8382f8f56c7b6fb293cbb1a9e5326297203c732ff587108029d", func := "loop.example/g01141/laws.FnExactIsPlay", spec := "fnExactIsPlay", apart := false, narrowed := true }
def FnExactIsPlayUptoSaid : Prop := fnExactIsPlayUptoRow.holds Try.pinned (OpenSpec.upto fnExactIsPlaySpec)

/-- 'laws.FnExactPlayBox', WHERE WHAT IT READS IS OF BULK AT MOST 1048576: true; the input reads as it did. -/
def fnExactPlayBoxUptoRow : OpenClaim := { program := "ytblhoggdnpblmaa", sum := "7b32f8d80ed8b8382f8f56c7b6fb293cbb1a9e5326297203c732ff587108029d", func := "loop.example/g01141/laws.FnExactPlayBox", spec := "fnExactPlayBox", unfollowed := true, recurses := true, apart := false, narrowed := true }
def FnExactPlayBoxUptoSaid : Prop := fnExactPlayBoxUptoRow.holds Try.pinned (OpenSpec.upto fnExactPlayBoxSpec)

/-- 'laws.FnExactNoiseBox', WHERE WHAT IT READS IS OF BULK AT MOST 1048576: true; the input reads as it did. -/
def fnExactNoiseBoxUptoRow : OpenClaim := { program := "ytblhoggdnpblmaa", sum := "7b32f8d80ed8b8382f8f56c7b6fb293cbb1a9e5326297203c732ff587108029d", func := "loop.example/g01141/laws.FnExactNoiseBox", spec := "fnExactNoiseBox", unfollowed := true, recurses := true, apart := false, narrowed := true }
def FnExactNoiseBoxUptoSaid : Prop := fnExactNoiseBoxUptoRow.holds Try.pinned (OpenSpec.upto fnExactNoiseBoxSpec)

/-- 'laws.FnExactProductBox', WHERE WHAT IT READS IS OF BULK AT MOST 1048576: true; the input reads as it did. -/
def fnExactProductBoxUptoRow : OpenClaim := { program := "ytblhoggdnpblmaa", sum := "7b32f8d80ed8b8382f8f56c7b6fb293cbb1a9e5326297203c732ff587108029d", func := "loop.example/g01141/laws.FnExactProductBox", spec := "fnExactProductBox", unfollowed := true, recurses := true, apart := false, narrowed := true }
def FnExactProductBoxUptoSaid : Prop := fnExactProductBoxUptoRow.holds Try.pinned (OpenSpec.upto fnExactProductBoxSpec)

/-- 'laws.FnExactMixBoxes', WHERE WHAT IT READS IS OF BULK AT MOST 1048576: true; the input reads as it did. -/
def fnExactMixBoxesUptoRow : OpenClaim := { program := "ytblhoggdnpblmaa", sum := "7b32f8d80ed8b8382f8f56c7b6fb293cbb1a9e5326297203c732ff587108029d", func := "loop.example/g01141/laws.FnExactMixBoxes", spec := "fnExactMixBoxes", unfollowed := true, recurses := true, apart := false, narrowed := true }
def FnExactMixBoxesUptoSaid : Prop := fnExactMixBoxesUptoRow.holds Try.pinned (OpenSpec.upto fnExactMixBoxesSpec)

/-- 'laws.FnExactScaleBox', WHERE WHAT IT READS IS OF BULK AT MOST 1048576: true; the input reads as it did. -/
def fnExactScaleBoxUptoRow : OpenClaim := { program := "ytblhoggdnpblmaa", sum := "7b32f8d80ed8b8382f8f56c7b6fb293cbb1a9e5326297203c732ff587108029d", func := "loop.example/g01141/laws.FnExactScaleBox", spec := "fnExactScaleBox", unfollowed := true, recurses := true, apart := false, narrowed := true }
def FnExactScaleBoxUptoSaid : Prop := fnExactScaleBoxUptoRow.holds Try.pinned (OpenSpec.upto fnExactScaleBoxSpec)

/-- 'laws.FnExactReduceBox', WHERE WHAT IT READS IS OF BULK AT MOST 1048576: true; the input reads as it did. -/
def fnExactReduceBoxUptoRow : OpenClaim := { program := "ytblhoggdnpblmaa", sum := "7b32f8d80ed8b8382f8f56c7b6fb293cbb1a9e5326297203c732ff587108029d", func := "loop.example/g01141/laws.FnExactReduceBox", spec := "fnExactReduceBox", unfollowed := true, recurses := true, apart := false, narrowed := true }
def FnExactReduceBoxUptoSaid : Prop := fnExactReduceBoxUptoRow.holds Try.pinned (OpenSpec.upto fnExactReduceBoxSpec)

end Rows
end Go.Proofs.Ytblhoggdnpblmaa
