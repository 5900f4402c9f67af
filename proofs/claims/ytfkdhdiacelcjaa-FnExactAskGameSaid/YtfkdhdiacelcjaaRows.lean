/-
  No cell of these rows narrows 'for every input' (looked for: loops, veiled, ifaces, maps, wideKeys, modest, calm, conditions, laid).
  DERIVED. THE GIVEN ROWS OF THIS SEAT. 11 by the template 'for every input the law returns true; each argument reads behind the call as it read before'; 0 by the template 'total and deterministic' (their statements: YtfkdhdiacelcjaaTotals.lean).
  GIVEN WITH THE SEED: the statements are not yours to turn. If you find one false, say at which input.
  Laid BY PROGRAM, IN A SANDBOX (cutbox-rows.mjs): the forced cells as the released guide's own fill.sh prints them over the translation 64f049e08c70c9d4… (all of the seat's roots in one cut). By AI agents, Wed Nov 11 2026. No macro, syntax, notation, axiom, sorry.
-/
import Derived.Test.YtfkdhdiacelcjaaChecked
import GoSem.Claim
import GoSem.ClaimJoined
import GoSem.ClaimMapViews
import Derived.JoinedTies
import Derived.KernelRfl
namespace Go.Proofs.Ytfkdhdiacelcjaa
/- THE CELL 'sum', in the pinned program and in every row, IS THE sha256 OF THE DUMP (.gsa) THAT YtfkdhdiacelcjaaProg.lean LOADS. Nothing in Lean hashes anything: it is a label: what it is worth is what the hold of that sum in a sandbox is worth. -/
noncomputable def Try.pinned : Pinned := { name := "ytfkdhdiacelcjaa", sum := "64f049e08c70c9d437d0c56a7d630ccd5af15395ef1c95dd093453619ce9f17e", checked := Try.checked }
namespace Rows
def none {H : Type} : Left H := { results := [], args := [] }

/-- 'laws.FnExactSignGame': WHATEVER THE INPUT: true; the input reads as it did. -/
def fnExactSignGameSpec : ChangeSpec := { name := "fnExactSignGame", fn := fun _ => fun
  | [d1, d2, d3, d4] => { results := [.lit (.bool true)], args := [d1, d2, d3, d4] }
  | _ => none }
def fnExactSignGameRow : OpenClaim := { program := "ytfkdhdiacelcjaa", sum := "64f049e08c70c9d437d0c56a7d630ccd5af15395ef1c95dd093453619ce9f17e", func := "loop.example/g01141/laws.FnExactSignGame", spec := "fnExactSignGame", unfollowed := true, recurses := true, apart := false }
def FnExactSignGameSaid : Prop := fnExactSignGameRow.holds Try.pinned (OpenSpec.ofChange fnExactSignGameSpec)

/-- ITS FALSE NEIGHBOUR: 'it returns false'. Refute it at one input. -/
def fnExactSignGameWrong : ChangeSpec := { name := "fnExactSignGame", fn := fun _ => fun
  | [d1, d2, d3, d4] => { results := [.lit (.bool false)], args := [d1, d2, d3, d4] }
  | _ => none }
def FnExactSignGameWrongFalsely : Prop := fnExactSignGameRow.holds Try.pinned (OpenSpec.ofChange fnExactSignGameWrong)

/-- 'laws.FnExactFlipGame': WHATEVER THE INPUT: true; the input reads as it did. -/
def fnExactFlipGameSpec : ChangeSpec := { name := "fnExactFlipGame", fn := fun _ => fun
  | [d1, d2] => { results := [.lit (.bool true)], args := [d1, d2] }
  | _ => none }
def fnExactFlipGameRow : OpenClaim := { program := "ytfkdhdiacelcjaa", sum := "64f049e08c70c9d437d0c56a7d630ccd5af15395ef1c95dd093453619ce9f17e", func := "loop.example/g01141/laws.FnExactFlipGame", spec := "fnExactFlipGame", unfollowed := true, recurses := true, apart := false }
def FnExactFlipGameSaid : Prop := fnExactFlipGameRow.holds Try.pinned (OpenSpec.ofChange fnExactFlipGameSpec)

/-- ITS FALSE NEIGHBOUR: 'it returns false'. Refute it at one input. -/
def fnExactFlipGameWrong : ChangeSpec := { name := "fnExactFlipGame", fn := fun _ => fun
  | [d1, d2] => { results := [.lit (.bool false)], args := [d1, d2] }
  | _ => none }
def FnExactFlipGameWrongFalsely : Prop := fnExactFlipGameRow.holds Try.pinned (OpenSpec.ofChange fnExactFlipGameWrong)

/-- 'laws.FnExactAskGame': WHATEVER THE INPUT: true; the input reads as it did. -/
def fnExactAskGameSpec : ChangeSpec := { name := "fnExactAskGame", fn := fun _ => fun
  | [d1, d2, d3] => { results := [.lit (.bool true)], args := [d1, d2, d3] }
  | _ => none }
def fnExactAskGameRow : OpenClaim := { program := "ytfkdhdiacelcjaa", sum := "64f049e08c70c9d437d0c56a7d630ccd5af15395ef1c95dd093453619ce9f17e", func := "loop.example/g01141/laws.FnExactAskGame", spec := "fnExactAskGame", unfollowed := true, recurses := true, apart := false }
def FnExactAskGameSaid : Prop := fnExactAskGameRow.holds Try.pinned (OpenSpec.ofChange fnExactAskGameSpec)

/-- ITS FALSE NEIGHBOUR: 'it returns false'. Refute it at one input. -/
def fnExactAskGameWrong : ChangeSpec := { name := "fnExactAskGame", fn := fun _ => fun
  | [d1, d2, d3] => { results := [.lit (.bool false)], args := [d1, d2, d3] }
  | _ => none }
def FnExactAskGameWrongFalsely : Prop := fnExactAskGameRow.holds Try.pinned (OpenSpec.ofChange fnExactAskGameWrong)

/-- 'laws.FnExactMixtureBox': WHATEVER THE INPUT: true; the input reads as it did. -/
def fnExactMixtureBoxSpec : ChangeSpec := { name := "fnExactMixtureBox", fn := fun _ => fun
  | [d1, d2, d3] => { results := [.lit (.bool true)], args := [d1, d2, d3] }
  | _ => none }
def fnExactMixtureBoxRow : OpenClaim := { program := "ytfkdhdiacelcjaa", sum := "64f049e08c70c9d437d0c56a7d630ccd5af15395ef1c95dd093453619ce9f17e", func := "loop.example/g01141/laws.FnExactMixtureBox", spec := "fnExactMixtureBox", unfollowed := true, recurses := true, apart := false }
def FnExactMixtureBoxSaid : Prop := fnExactMixtureBoxRow.holds Try.pinned (OpenSpec.ofChange fnExactMixtureBoxSpec)

/-- ITS FALSE NEIGHBOUR: 'it returns false'. Refute it at one input. -/
def fnExactMixtureBoxWrong : ChangeSpec := { name := "fnExactMixtureBox", fn := fun _ => fun
  | [d1, d2, d3] => { results := [.lit (.bool false)], args := [d1, d2, d3] }
  | _ => none }
def FnExactMixtureBoxWrongFalsely : Prop := fnExactMixtureBoxRow.holds Try.pinned (OpenSpec.ofChange fnExactMixtureBoxWrong)

/-- 'laws.FnExactIsMixture': WHATEVER THE INPUT: true; the input reads as it did. -/
def fnExactIsMixtureSpec : ChangeSpec := { name := "fnExactIsMixture", fn := fun _ => fun
  | [d1, d2] => { results := [.lit (.bool true)], args := [d1, d2] }
  | _ => none }
def fnExactIsMixtureRow : OpenClaim := { program := "ytfkdhdiacelcjaa", sum := "64f049e08c70c9d437d0c56a7d630ccd5af15395ef1c95dd093453619ce9f17e", func := "loop.example/g01141/laws.FnExactIsMixture", spec := "fnExactIsMixture", unfollowed := true, recurses := true, apart := false }
def FnExactIsMixtureSaid : Prop := fnExactIsMixtureRow.holds Try.pinned (OpenSpec.ofChange fnExactIsMixtureSpec)

/-- ITS FALSE NEIGHBOUR: 'it returns false'. Refute it at one input. -/
def fnExactIsMixtureWrong : ChangeSpec := { name := "fnExactIsMixture", fn := fun _ => fun
  | [d1, d2] => { results := [.lit (.bool false)], args := [d1, d2] }
  | _ => none }
def FnExactIsMixtureWrongFalsely : Prop := fnExactIsMixtureRow.holds Try.pinned (OpenSpec.ofChange fnExactIsMixtureWrong)

/-- 'laws.FnExactIsSignGame': WHATEVER THE INPUT: true; the input reads as it did. -/
def fnExactIsSignGameSpec : ChangeSpec := { name := "fnExactIsSignGame", fn := fun _ => fun
  | [d] => { results := [.lit (.bool true)], args := [d] }
  | _ => none }
def fnExactIsSignGameRow : OpenClaim := { program := "ytfkdhdiacelcjaa", sum := "64f049e08c70c9d437d0c56a7d630ccd5af15395ef1c95dd093453619ce9f17e", func := "loop.example/g01141/laws.FnExactIsSignGame", spec := "fnExactIsSignGame", apart := false }
def FnExactIsSignGameSaid : Prop := fnExactIsSignGameRow.holds Try.pinned (OpenSpec.ofChange fnExactIsSignGameSpec)

/-- ITS FALSE NEIGHBOUR: 'it returns false'. Refute it at one input. -/
def fnExactIsSignGameWrong : ChangeSpec := { name := "fnExactIsSignGame", fn := fun _ => fun
  | [d] => { results := [.lit (.bool false)], args := [d] }
  | _ => none }
def FnExactIsSignGameWrongFalsely : Prop := fnExactIsSignGameRow.holds Try.pinned (OpenSpec.ofChange fnExactIsSignGameWrong)

/-- 'laws.FnExactSignFunctional': WHATEVER THE INPUT: true; the input reads as it did. -/
def fnExactSignFunctionalSpec : ChangeSpec := { name := "fnExactSignFunctional", fn := fun _ => fun
  | [d] => { results := [.lit (.bool true)], args := [d] }
  | _ => none }
def fnExactSignFunctionalRow : OpenClaim := { program := "ytfkdhdiacelcjaa", sum := "64f049e08c70c9d437d0c56a7d630ccd5af15395ef1c95dd093453619ce9f17e", func := "loop.example/g01141/laws.FnExactSignFunctional", spec := "fnExactSignFunctional", unfollowed := true, recurses := true, apart := false }
def FnExactSignFunctionalSaid : Prop := fnExactSignFunctionalRow.holds Try.pinned (OpenSpec.ofChange fnExactSignFunctionalSpec)

/-- ITS FALSE NEIGHBOUR: 'it returns false'. Refute it at one input. -/
def fnExactSignFunctionalWrong : ChangeSpec := { name := "fnExactSignFunctional", fn := fun _ => fun
  | [d] => { results := [.lit (.bool false)], args := [d] }
  | _ => none }
def FnExactSignFunctionalWrongFalsely : Prop := fnExactSignFunctionalRow.holds Try.pinned (OpenSpec.ofChange fnExactSignFunctionalWrong)

/-- 'laws.FnExactSignWorth': WHATEVER THE INPUT: true; the input reads as it did. -/
def fnExactSignWorthSpec : ChangeSpec := { name := "fnExactSignWorth", fn := fun _ => fun
  | [d1, d2] => { results := [.lit (.bool true)], args := [d1, d2] }
  | _ => none }
def fnExactSignWorthRow : OpenClaim := { program := "ytfkdhdiacelcjaa", sum := "64f049e08c70c9d437d0c56a7d630ccd5af15395ef1c95dd093453619ce9f17e", func := "loop.example/g01141/laws.FnExactSignWorth", spec := "fnExactSignWorth", unfollowed := true, recurses := true, apart := false }
def FnExactSignWorthSaid : Prop := fnExactSignWorthRow.holds Try.pinned (OpenSpec.ofChange fnExactSignWorthSpec)

/-- ITS FALSE NEIGHBOUR: 'it returns false'. Refute it at one input. -/
def fnExactSignWorthWrong : ChangeSpec := { name := "fnExactSignWorth", fn := fun _ => fun
  | [d1, d2] => { results := [.lit (.bool false)], args := [d1, d2] }
  | _ => none }
def FnExactSignWorthWrongFalsely : Prop := fnExactSignWorthRow.holds Try.pinned (OpenSpec.ofChange fnExactSignWorthWrong)

/-- 'laws.FnExactIsSpread': WHATEVER THE INPUT: true; the input reads as it did. -/
def fnExactIsSpreadSpec : ChangeSpec := { name := "fnExactIsSpread", fn := fun _ => fun
  | [d1, d2, d3] => { results := [.lit (.bool true)], args := [d1, d2, d3] }
  | _ => none }
def fnExactIsSpreadRow : OpenClaim := { program := "ytfkdhdiacelcjaa", sum := "64f049e08c70c9d437d0c56a7d630ccd5af15395ef1c95dd093453619ce9f17e", func := "loop.example/g01141/laws.FnExactIsSpread", spec := "fnExactIsSpread", apart := false }
def FnExactIsSpreadSaid : Prop := fnExactIsSpreadRow.holds Try.pinned (OpenSpec.ofChange fnExactIsSpreadSpec)

/-- ITS FALSE NEIGHBOUR: 'it returns false'. Refute it at one input. -/
def fnExactIsSpreadWrong : ChangeSpec := { name := "fnExactIsSpread", fn := fun _ => fun
  | [d1, d2, d3] => { results := [.lit (.bool false)], args := [d1, d2, d3] }
  | _ => none }
def FnExactIsSpreadWrongFalsely : Prop := fnExactIsSpreadRow.holds Try.pinned (OpenSpec.ofChange fnExactIsSpreadWrong)

/-- 'laws.FnExactSpreadWorth': WHATEVER THE INPUT: true; the input reads as it did. -/
def fnExactSpreadWorthSpec : ChangeSpec := { name := "fnExactSpreadWorth", fn := fun _ => fun
  | [d1, d2, d3] => { results := [.lit (.bool true)], args := [d1, d2, d3] }
  | _ => none }
def fnExactSpreadWorthRow : OpenClaim := { program := "ytfkdhdiacelcjaa", sum := "64f049e08c70c9d437d0c56a7d630ccd5af15395ef1c95dd093453619ce9f17e", func := "loop.example/g01141/laws.FnExactSpreadWorth", spec := "fnExactSpreadWorth", apart := false }
def FnExactSpreadWorthSaid : Prop := fnExactSpreadWorthRow.holds Try.pinned (OpenSpec.ofChange fnExactSpreadWorthSpec)

/-- ITS FALSE NEIGHBOUR: 'it returns false'. Refute it at one input. -/
def fnExactSpreadWorthWrong : ChangeSpec := { name := "fnExactSpreadWorth", fn := fun _ => fun
  | [d1, d2, d3] => { results := [.lit (.bool false)], args := [d1, d2, d3] }
  | _ => none }
def FnExactSpreadWorthWrongFalsely : Prop := fnExactSpreadWorthRow.holds Try.pinned (OpenSpec.ofChange fnExactSpreadWorthWrong)

/-- 'laws.FnExactSwitchSigns': WHATEVER THE INPUT: true; the input reads as it did. -/
def fnExactSwitchSignsSpec : ChangeSpec := { name := "fnExactSwitchSigns", fn := fun _ => fun
  | [d1, d2, d3] => { results := [.lit (.bool true)], args := [d1, d2, d3] }
  | _ => none }
def fnExactSwitchSignsRow : OpenClaim := { program := "ytfkdhdiacelcjaa", sum := "64f049e08c70c9d437d0c56a7d630ccd5af15395ef1c95dd093453619ce9f17e", func := "loop.example/g01141/laws.FnExactSwitchSigns", spec := "fnExactSwitchSigns", apart := false }
def FnExactSwitchSignsSaid : Prop := fnExactSwitchSignsRow.holds Try.pinned (OpenSpec.ofChange fnExactSwitchSignsSpec)

/-- ITS FALSE NEIGHBOUR: 'it returns false'. Refute it at one input. -/
def fnExactSwitchSignsWrong : ChangeSpec := { name := "fnExactSwitchSigns", fn := fun _ => fun
  | [d1, d2, d3] => { results := [.lit (.bool false)], args := [d1, d2, d3] }
  | _ => none }
def FnExactSwitchSignsWrongFalsely : Prop := fnExactSwitchSignsRow.holds Try.pinned (OpenSpec.ofChange fnExactSwitchSignsWrong)

/- THE SECOND FORM. 'bulk': how many values and letters a reading holds, each counted each time it is reached (what is shared counts as often as it is met; a slice's spare places count too). A statement '..UptoSaid' is the law's where the arguments, and the package variables that the reading takes, are together of bulk at most 1048576: NARROWER than '..Said'. Prove '..Said' where nothing that the law and all that it calls make is longer than what came in: it says more and counts as full. Else prove '..UptoSaid'. A law counts once. -/
mutual
def uptoBulk {H : Type} : DataW H → Nat
  | .lit (.string bytes) => bytes.length + 1
  | .lit _ => 1
  | .nil => 1
  | .ptr d => uptoBulk d + 1
  | .slice elems spare => uptoBulkAll elems + uptoBulkAll spare + 1
  | .agg parts => uptoBulkAll parts + 1
  | .iface _ d => uptoBulk d + 1
  | .map entries => uptoBulkEntries entries + 1
  | .held _ => 1
def uptoBulkAll {H : Type} : List (DataW H) → Nat
  | [] => 0
  | d :: r => uptoBulk d + uptoBulkAll r
def uptoBulkEntries {H : Type} : List (Lit × DataW H) → Nat
  | [] => 0
  | x :: r => uptoBulkEntry x + uptoBulkEntries r
def uptoBulkEntry {H : Type} : Lit × DataW H → Nat
  | (.string bytes, d) => bytes.length + uptoBulk d + 1
  | (_, d) => uptoBulk d + 1
 end
def uptoSmall : (H : Type) → List (DataW H) → Bool := fun _ ds => decide (uptoBulkAll ds ≤ 1048576)
def OpenSpec.upto (s : _root_.Go.ChangeSpec) : _root_.Go.OpenSpec := { _root_.Go.OpenSpec.ofChange s with cond := some uptoSmall }

/-- 'laws.FnExactSignGame', WHERE WHAT IT READS IS OF BULK AT MOST 1048576: true; the input reads as it did. -/
def fnExactSignGameUptoRow : OpenClaim := { program := "ytfkdhdiacelcjaa", sum := "64f049e08c70c9d437d0c56a7d630ccd5af15395ef1c95dd093453619ce9f17e", func := "loop.example/g01141/laws.FnExactSignGame", spec := "fnExactSignGame", unfollowed := true, recurses := true, apart := false, narrowed := true }
def FnExactSignGameUptoSaid : Prop := fnExactSignGameUptoRow.holds Try.pinned (OpenSpec.upto fnExactSignGameSpec)

/-- 'laws.FnExactFlipGame', WHERE WHAT IT READS IS OF BULK AT MOST 1048576: true; the input reads as it did. -/
def fnExactFlipGameUptoRow : OpenClaim := { program := "ytfkdhdiacelcjaa", sum := "64f049e08c70c9d437d0c56a7d630ccd5af15395ef1c95dd093453619ce9f17e", func := "loop.example/g01141/laws.FnExactFlipGame", spec := "fnExactFlipGame", unfollowed := true, recurses := true, apart := false, narrowed := true }
def FnExactFlipGameUptoSaid : Prop := fnExactFlipGameUptoRow.holds Try.pinned (OpenSpec.upto fnExactFlipGameSpec)

/-- 'laws.FnExactAskGame', WHERE WHAT IT READS IS OF BULK AT MOST 1048576: true; the input reads as it did. -/
def fnExactAskGameUptoRow : OpenClaim := { program := "ytfkdhdiacelcjaa", sum := "64f049e08c70c9d437d0c56a7d630ccd5af15395ef1c95dd093453619ce9f17e", func := "loop.example/g01141/laws.FnExactAskGame", spec := "fnExactAskGame", unfollowed := true, recurses := true, apart := false, narrowed := true }
def FnExactAskGameUptoSaid : Prop := fnExactAskGameUptoRow.holds Try.pinned (OpenSpec.upto fnExactAskGameSpec)

/-- 'laws.FnExactMixtureBox', WHERE WHAT IT READS IS OF BULK AT MOST 1048576: true; the input reads as it did. -/
def fnExactMixtureBoxUptoRow : OpenClaim := { program := "ytfkdhdiacelcjaa", sum := "64f049e08c70c9d437d0c56a7d630ccd5af15395ef1c95dd093453619ce9f17e", func := "loop.example/g01141/laws.FnExactMixtureBox", spec := "fnExactMixtureBox", unfollowed := true, recurses := true, apart := false, narrowed := true }
def FnExactMixtureBoxUptoSaid : Prop := fnExactMixtureBoxUptoRow.holds Try.pinned (OpenSpec.upto fnExactMixtureBoxSpec)

/-- 'laws.FnExactIsMixture', WHERE WHAT IT READS IS OF BULK AT MOST 1048576: true; the input reads as it did. -/
def fnExactIsMixtureUptoRow : OpenClaim := { program := "ytfkdhdiacelcjaa", sum := "64f049e08c70c9d437d0c56a7d630ccd5af15395ef1c95dd093453619ce9f17e", func := "loop.example/g01141/laws.FnExactIsMixture", spec := "fnExactIsMixture", unfollowed := true, recurses := true, apart := false, narrowed := true }
def FnExactIsMixtureUptoSaid : Prop := fnExactIsMixtureUptoRow.holds Try.pinned (OpenSpec.upto fnExactIsMixtureSpec)

/-- 'laws.FnExactIsSignGame', WHERE WHAT IT READS IS OF BULK AT MOST 1048576: true; the input reads as it did. -/
def fnExactIsSignGameUptoRow : OpenClaim := { program := "ytfkdhdiacelcjaa", sum := "64f049e08c70c9d437d0c56a7d630ccd5af15395ef1c95dd093453619ce9f17e", func := "loop.example/g01141/laws.FnExactIsSignGame", spec := "fnExactIsSignGame", apart := false, narrowed := true }
def FnExactIsSignGameUptoSaid : Prop := fnExactIsSignGameUptoRow.holds Try.pinned (OpenSpec.upto fnExactIsSignGameSpec)

/-- 'laws.FnExactSignFunctional', WHERE WHAT IT READS IS OF BULK AT MOST 1048576: true; the input reads as it did. -/
def fnExactSignFunctionalUptoRow : OpenClaim := { program := "ytfkdhdiacelcjaa", sum := "64f049e08c70c9d437d0c56a7d630ccd5af15395ef1c95dd093453619ce9f17e", func := "loop.example/g01141/laws.FnExactSignFunctional", spec := "fnExactSignFunctional", unfollowed := true, recurses := true, apart := false, narrowed := true }
def FnExactSignFunctionalUptoSaid : Prop := fnExactSignFunctionalUptoRow.holds Try.pinned (OpenSpec.upto fnExactSignFunctionalSpec)

/-- 'laws.FnExactSignWorth', WHERE WHAT IT READS IS OF BULK AT MOST 1048576: true; the input reads as it did. -/
def fnExactSignWorthUptoRow : OpenClaim := { program := "ytfkdhdiacelcjaa", sum := "64f049e08c70c9d437d0c56a7d630ccd5af15395ef1c95dd093453619ce9f17e", func := "loop.example/g01141/laws.FnExactSignWorth", spec := "fnExactSignWorth", unfollowed := true, recurses := true, apart := false, narrowed := true }
def FnExactSignWorthUptoSaid : Prop := fnExactSignWorthUptoRow.holds Try.pinned (OpenSpec.upto fnExactSignWorthSpec)

/-- 'laws.FnExactIsSpread', WHERE WHAT IT READS IS OF BULK AT MOST 1048576: true; the input reads as it did. -/
def fnExactIsSpreadUptoRow : OpenClaim := { program := "ytfkdhdiacelcjaa", sum := "64f049e08c70c9d437d0c56a7d630ccd5af15395ef1c95dd093453619ce9f17e", func := "loop.example/g01141/laws.FnExactIsSpread", spec := "fnExactIsSpread", apart := false, narrowed := true }
def FnExactIsSpreadUptoSaid : Prop := fnExactIsSpreadUptoRow.holds Try.pinned (OpenSpec.upto fnExactIsSpreadSpec)

/-- 'laws.FnExactSpreadWorth', WHERE WHAT IT READS IS OF BULK AT MOST 1048576: true; the input reads as it did. -/
def fnExactSpreadWorthUptoRow : OpenClaim := { program := "ytfkdhdiacelcjaa", sum := "64f049e08c70c9d437d0c56a7d630ccd5af15395ef1c95dd093453619ce9f17e", func := "loop.example/g01141/laws.FnExactSpreadWorth", spec := "fnExactSpreadWorth", apart := false, narrowed := true }
def FnExactSpreadWorthUptoSaid : Prop := fnExactSpreadWorthUptoRow.holds Try.pinned (OpenSpec.upto fnExactSpreadWorthSpec)

/-- 'laws.FnExactSwitchSigns', WHERE WHAT IT READS IS OF BULK AT MOST 1048576: true; the input reads as it did. -/
def fnExactSwitchSignsUptoRow : OpenClaim := { program := "ytfkdhdiacelcjaa", sum := "64f049e08c70c9d437d0c56a7d630ccd5af15395ef1c95dd093453619ce9f17e", func := "loop.example/g01141/laws.FnExactSwitchSigns", spec := "fnExactSwitchSigns", apart := false, narrowed := true }
def FnExactSwitchSignsUptoSaid : Prop := fnExactSwitchSignsUptoRow.holds Try.pinned (OpenSpec.upto fnExactSwitchSignsSpec)

end Rows
end Go.Proofs.Ytfkdhdiacelcjaa
