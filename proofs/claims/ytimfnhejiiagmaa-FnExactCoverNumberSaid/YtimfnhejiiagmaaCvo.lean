/- The covers of the program: wholeTask, coversOf. -/
import Derived.Test.YtimfnhejiiagmaaCan
import Derived.Test.YtimfnhejiiagmaaGrid
namespace Go.Proofs.Ytimfnhejiiagmaa.cvo
open Go.RowKit Go.Deep Go.Proofs.Ytimfnhejiiagmaa.base
open Go.Proofs.Ytimfnhejiiagmaa.ints (ret_int infoInt)
open Go.Proofs.Ytimfnhejiiagmaa.plays (bit at_)
open Go.Proofs.Ytimfnhejiiagmaa.task (okTask wide)
open Go.Proofs.Ytimfnhejiiagmaa.grid (nn)
open Go.Proofs.Ytimfnhejiiagmaa.cvm Go.Proofs.Ytimfnhejiiagmaa.cvb Go.Proofs.Ytimfnhejiiagmaa.canc Go.Proofs.Ytimfnhejiiagmaa.chc
open Go.Proofs.Ytimfnhejiiagmaa.prt (two_cells)

/-- the first s of four places -/
def fp (s : Nat) : Nat := 16 - 2 ^ (4 - s)

set_option maxRecDepth 100000 in
set_option maxHeartbeats 4000000 in
theorem whole (v : Value) (T : List (List Int)) (w : World) (hok : okTask T) (ht : IRows w v T) :
    Calls Try.prog 111 #[v] w fun e w' => e = .returned (.agg #[.int .i64 (fp T.length : Int), .int .i64 (fp (wide T) : Int)]) ∧ Below w.heap.size w w' := by
  obtain ⟨B, d, cap, rb, ro, rc, rfl, hcells⟩ := grid.cells ht hok
  have hL := fun W => first T.length hok.1.1 hok.1.2 W
  have hM := fun W => first (wide T) hok.2.1.1 hok.2.1.2 W
  have hx : (0 : Int) < (T.length : Int) := by have := hok.1.1; omega
  have hxn : 0 < T.length := hok.1.1
  obtain ⟨c0, -⟩ := hcells 0 hxn
  have c0 := below_cell (below_al (Below.refl _ _) (.cells #[.int .i64 0, .int .i64 0] 122)) _ _ c0
  rw [Nat.add_zero] at c0
  unfold fp
  generalize 16 - 2 ^ (4 - T.length) = p at *
  generalize 16 - 2 ^ (4 - wide T) = q at *
  generalize T.length = X at *
  generalize wide T = Y at *
  have HL := Lib.hid hL
  have HM := Lib.hid hM
  clear hok ht hcells hL hM
  go_enter Try.func111, Try.ntmps111
  go_wp2_with fail
  go_region_with (go_at_call 170; first | (refine (HL.out _).mono ?_; rintro e w' ⟨rfl, rfl⟩) | (refine (HM.out _).mono ?_; rintro e w' ⟨rfl, rfl⟩))
  all_goals
    go_wp2_with fail
    obtain ⟨r0, r1, r2⟩ := two_cells (Blk.new w 122 #[.int .i64 (p : Int), .int .i64 (q : Int)])
    refine bodyPost_ret (v := .agg #[.int .i64 (p : Int), .int .i64 (q : Int)]) (by simp [results, Try.results111, go_sem, r0, r1]) rfl ?_
    exact ⟨rfl, by first | exact below_drewN (below_al (Below.refl _ _) _) _ | exact below_drewN (below_al (Below.refl _ _) _) 1 | exact below_al (Below.refl _ _) _⟩

end Go.Proofs.Ytimfnhejiiagmaa.cvo
