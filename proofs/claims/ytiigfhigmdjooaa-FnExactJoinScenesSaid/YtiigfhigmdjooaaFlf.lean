/- FlipEvent of the program, whole. -/
import Derived.Test.YtiigfhigmdjooaaFle
namespace Go.Proofs.Ytiigfhigmdjooaa.flf
open Go.RowKit Go.Deep Go.Proofs.Ytiigfhigmdjooaa.base
open Go.Proofs.Ytiigfhigmdjooaa.rws (total len_le_total)
open Go.Proofs.Ytiigfhigmdjooaa.play (within withinB withinB_yes withinB_no)
open Go.Proofs.Ytiigfhigmdjooaa.scm
open Go.Proofs.Ytiigfhigmdjooaa.lst
open Go.Proofs.Ytiigfhigmdjooaa.fle

theorem og_nil (w : World) (B T : Nat) (h : B ≤ T) : scene.OG w B T (.slice none 0 0) [] (.slice none 0 0) [] := scene.OG.nil w B T h
theorem bB_dr {w1 w : World} {B : Nat} (h : Below B w1 w) : Below B w1 w.drew := h.drew
theorem bB_tr {w1 w w' : World} {B : Nat} (hB : B ≤ w1.heap.size) (h : Below B w1 w) (k : Below w.heap.size w w') : Below B w1 w' := h.trans (k.mono (Nat.le_trans hB h.size))



end Go.Proofs.Ytiigfhigmdjooaa.flf
