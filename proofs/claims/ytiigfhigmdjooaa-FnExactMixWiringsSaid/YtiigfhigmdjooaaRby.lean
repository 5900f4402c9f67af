/- ruleBy, SumRuleBy, NamedRule of the program. -/
import Derived.Test.YtiigfhigmdjooaaRul
import Derived.Test.YtiigfhigmdjooaaStr
import Derived.Test.YtiigfhigmdjooaaTob
import Derived.Test.YtiigfhigmdjooaaInv
namespace Go.Proofs.Ytiigfhigmdjooaa.rby
open Go.RowKit Go.Deep Go.Proofs.Ytiigfhigmdjooaa.base
open Go.Proofs.Ytiigfhigmdjooaa.ints (ret_int)
open Go.Proofs.Ytiigfhigmdjooaa.play (within withinB withinB_yes withinB_no)
open Go.Proofs.Ytiigfhigmdjooaa.scene (three_cells)
open Go.Proofs.Ytiigfhigmdjooaa.rule (RV OR)

/-- the two halves of an ask list -/
def halves (xs : List Int) : List (List Int) := [[xs.getD 0 0, xs.getD 1 0], [xs.getD 2 0, xs.getD 3 0]]
/-- what holds while the operations of the region come up, in whatever order -/
structure JB (b : World) (ab ao ac sb so sc : Nat) (ra rs : List (List Int)) (L : Nat → Bool) (lo0 hi0 lo5 hi5 lo6 hi6 lo9 hi9 lo10 hi10 : Nat) (s5 s6 s7 s8 s9 s10 s11 s12 s13 s14 s15 s16 : Value) (W : World) : Prop where
  fb : Below b.heap.size b W
  fk : Blk W b.heap.size 88 (if L 12 = true then #[s5, s11, s15] else #[.slice none 0 0, .slice none 0 0, .slice none 0 0])
  f0 : L 0 = true → b.heap.size + 1 ≤ lo0 ∧ lo0 ≤ hi0 ∧ hi0 ≤ W.heap.size ∧ (s5 = .slice (some ⟨lo0, 0, none⟩) 2 2 ∧ hi0 = lo0 + 1 ∧ Blk W lo0 3 #[.int .i64 0, .int .i64 1])
  f1 : L 1 = true → s6 = .slice (some ⟨ab, ao, none⟩) 4 ac
  f2 : L 2 = true → s7 = .slice (some ⟨ab, ao, none⟩) 2 ac
  d2x1 : L 2 = true → L 1 = true
  f3 : L 3 = true → s8 = .slice (some ⟨ab, ao, none⟩) 4 ac
  f4 : L 4 = true → s9 = .slice (some ⟨ab, ao + 2, none⟩) 2 (ac - 2)
  d4x3 : L 4 = true → L 3 = true
  f5 : L 5 = true → b.heap.size + 1 ≤ lo5 ∧ lo5 ≤ hi5 ∧ hi5 ≤ W.heap.size ∧ (s10 = .slice (some ⟨lo5, 0, none⟩) 2 2 ∧ hi5 = lo5 + 1 ∧ Blk W lo5 39 #[.slice (some ⟨ab, ao, none⟩) 2 ac, .slice (some ⟨ab, ao + 2, none⟩) 2 (ac - 2)])
  d5x2 : L 5 = true → L 2 = true
  d5x4 : L 5 = true → L 4 = true
  f6 : L 6 = true → b.heap.size + 1 ≤ lo6 ∧ lo6 ≤ hi6 ∧ hi6 ≤ W.heap.size ∧ OwnRows W lo6 hi6 s11 ra
  d6x5 : L 6 = true → L 5 = true
  f7 : L 7 = true → s12 = .slice (some ⟨sb, so, none⟩) 4 sc
  f8 : L 8 = true → s13 = .slice (some ⟨sb, so, none⟩) 4 sc
  f9 : L 9 = true → b.heap.size + 1 ≤ lo9 ∧ lo9 ≤ hi9 ∧ hi9 ≤ W.heap.size ∧ (s14 = .slice (some ⟨lo9, 0, none⟩) 2 2 ∧ hi9 = lo9 + 1 ∧ Blk W lo9 39 #[.slice (some ⟨sb, so, none⟩) 4 sc, .slice (some ⟨sb, so, none⟩) 4 sc])
  d9x7 : L 9 = true → L 7 = true
  d9x8 : L 9 = true → L 8 = true
  f10 : L 10 = true → b.heap.size + 1 ≤ lo10 ∧ lo10 ≤ hi10 ∧ hi10 ≤ W.heap.size ∧ OwnRows W lo10 hi10 s15 rs
  d10x9 : L 10 = true → L 9 = true
  f11 : L 11 = true → s16 = .agg #[s5, s11, s15]
  d11x0 : L 11 = true → L 0 = true
  d11x6 : L 11 = true → L 6 = true
  d11x10 : L 11 = true → L 10 = true
  d12x11 : L 12 = true → L 11 = true
  a0x5 : L 0 = true → L 5 = true → hi0 ≤ lo5 ∨ hi5 ≤ lo0
  a0x6 : L 0 = true → L 6 = true → hi0 ≤ lo6 ∨ hi6 ≤ lo0
  a0x9 : L 0 = true → L 9 = true → hi0 ≤ lo9 ∨ hi9 ≤ lo0
  a0x10 : L 0 = true → L 10 = true → hi0 ≤ lo10 ∨ hi10 ≤ lo0
  a5x6 : L 5 = true → L 6 = true → hi5 ≤ lo6 ∨ hi6 ≤ lo5
  a5x9 : L 5 = true → L 9 = true → hi5 ≤ lo9 ∨ hi9 ≤ lo5
  a5x10 : L 5 = true → L 10 = true → hi5 ≤ lo10 ∨ hi10 ≤ lo5
  a6x9 : L 6 = true → L 9 = true → hi6 ≤ lo9 ∨ hi9 ≤ lo6
  a6x10 : L 6 = true → L 10 = true → hi6 ≤ lo10 ∨ hi10 ≤ lo6
  a9x10 : L 9 = true → L 10 = true → hi9 ≤ lo10 ∨ hi10 ≤ lo9



end Go.Proofs.Ytiigfhigmdjooaa.rby
