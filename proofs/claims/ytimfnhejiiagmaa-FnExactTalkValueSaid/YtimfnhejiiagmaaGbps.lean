/- BestPlay of the model. -/
import Derived.Test.YtimfnhejiiagmaaGbpi
namespace Go.Proofs.Ytimfnhejiiagmaa.gbp
open Go.RowKit Go.Deep Go.Proofs.Ytimfnhejiiagmaa.base
open Go.Proofs.Ytimfnhejiiagmaa.rws (total)
open Go.Proofs.Ytimfnhejiiagmaa.val (okSizes)
open Go.Proofs.Ytimfnhejiiagmaa.gval (okGame gameB gameB_yes gameB_no)
open Go.Proofs.Ytimfnhejiiagmaa.gscore (score)
open Go.Proofs.Ytimfnhejiiagmaa.gbm (stp best am S)
open Go.Proofs.Ytimfnhejiiagmaa.plays (at_ bit len_at)

theorem held5 {w w' : World} {p1 p2 p3 p4 p5 : Addr} {u1 u2 u3 u4 u5 : Value} (h1 : w.cell? p1 = some u1) (h2 : w.cell? p2 = some u2) (h3 : w.cell? p3 = some u3) (h4 : w.cell? p4 = some u4)
    (h5 : w.cell? p5 = some u5) (hb : Below w.heap.size w w') :
    w'.cell? p1 = some u1 ∧ w'.cell? p2 = some u2 ∧ w'.cell? p3 = some u3 ∧ w'.cell? p4 = some u4 ∧ w'.cell? p5 = some u5 ∧ Below w.heap.size w w' :=
  ⟨below_cell hb _ _ h1, below_cell hb _ _ h2, below_cell hb _ _ h3, below_cell hb _ _ h4, below_cell hb _ _ h5, hb⟩





end Go.Proofs.Ytimfnhejiiagmaa.gbp
