/- equalSumRows of the program. -/
import Derived.Test.YtneonebgneonkaaFour
namespace Go.Proofs.Ytneonebgneonkaa.eqr
open Go.RowKit Go.Deep Go.Proofs.Ytneonebgneonkaa.base
open Go.Proofs.Ytneonebgneonkaa.four (arr rv cells16)

def st (k j : Nat) : Array Value := #[.int .i64 (if 0 < j then eqs.N k 0 0 else 0), .int .i64 (if 0 < j then eqs.N k 0 1 else 0), .int .i64 (if 0 < j then eqs.N k 0 2 else 0), .int .i64 (if 0 < j then eqs.N k 0 3 else 0), .int .i64 (if 1 < j then eqs.N k 1 0 else 0), .int .i64 (if 1 < j then eqs.N k 1 1 else 0), .int .i64 (if 1 < j then eqs.N k 1 2 else 0), .int .i64 (if 1 < j then eqs.N k 1 3 else 0), .int .i64 (if 2 < j then eqs.N k 2 0 else 0), .int .i64 (if 2 < j then eqs.N k 2 1 else 0), .int .i64 (if 2 < j then eqs.N k 2 2 else 0), .int .i64 (if 2 < j then eqs.N k 2 3 else 0), .int .i64 (if 3 < j then eqs.N k 3 0 else 0), .int .i64 (if 3 < j then eqs.N k 3 1 else 0), .int .i64 (if 3 < j then eqs.N k 3 2 else 0), .int .i64 (if 3 < j then eqs.N k 3 3 else 0)]
def zer : Array Value := #[.int .i64 0, .int .i64 0, .int .i64 0, .int .i64 0, .int .i64 0, .int .i64 0, .int .i64 0, .int .i64 0, .int .i64 0, .int .i64 0, .int .i64 0, .int .i64 0, .int .i64 0, .int .i64 0, .int .i64 0, .int .i64 0]



end Go.Proofs.Ytneonebgneonkaa.eqr
