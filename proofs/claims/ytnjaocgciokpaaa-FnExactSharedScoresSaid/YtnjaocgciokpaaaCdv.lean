/- CodeScores and CodeTotal of the program; CodeGuesses of both sides. -/
import Derived.Test.YtnjaocgciokpaaaCdu
import Derived.Test.YtnjaocgciokpaaaPro
namespace Go.Proofs.Ytnjaocgciokpaaa.cdv
open Go.RowKit Go.Deep Go.Proofs.Ytnjaocgciokpaaa.base
open Go.Proofs.Ytnjaocgciokpaaa.ints (ret_int infoInt)
open Go.Proofs.Ytnjaocgciokpaaa.prs
open Go.Proofs.Ytnjaocgciokpaaa.prt (infoA2)
open Go.Proofs.Ytnjaocgciokpaaa.pro
open Go.Proofs.Ytnjaocgciokpaaa.cdm
open Go.Proofs.Ytnjaocgciokpaaa.cdt (resS resS_yes resS_no resT resT_yes resT_no)


set_option maxHeartbeats 1000000 in
theorem impl_any (n : Int) (v : Value) (cs : List Int) (w : World) (h : Ints w v cs) :
    Calls Try.prog 20 #[.int .i64 n, v] w fun e w' => ∃ u, e = .returned (.tuple #[u, .bool (resS n cs).2]) ∧ OwnInts w' w.heap.size w'.heap.size u (resS n cs).1 ∧ Below w.heap.size w w' := by
  have HO := Lib.hid (cdi.of_any n v cs w h)
  have HV := Lib.hid h
  obtain ⟨va, vn, vc, rfl⟩ := h.shape
  by_cases hok : okCode n cs
  · rw [codeB_yes hok, if_pos rfl] at HO
    rw [resS_yes hok]
    obtain ⟨m, rfl⟩ : ∃ m : Nat, n = m := ⟨n.toNat, by have := hok.1.1; omega⟩
    have HOK := Lib.hid hok
    rw [Int.toNat_natCast]
    clear h hok
    go_enter Try.func20, Try.ntmps20
    go_wp2_with fail
    refine HO.out.mono ?_
    rintro e w1 ⟨rfl, hb⟩
    have B1 := Lib.hid hb
    obtain ⟨W2, hW2⟩ : ∃ W2, w1.alloc (.cells #[.int .i64 (m : Int), .slice va vn vc] 60) = W2 := ⟨_, rfl⟩
    have B2 : Hid (Below w.heap.size w W2) := Lib.hid (hW2 ▸ below_al B1.out _)
    have K2 : Hid (Blk W2 w1.heap.size 60 #[.int .i64 (m : Int), .slice va vn vc]) := Lib.hid (hW2 ▸ Blk.new w1 _ _)
    obtain ⟨k0, k1⟩ := prt.two_cells K2.out
    clear hb HO
    go_wp2_with fail
    refine (cdu.scores m _ cs _ (HV.out.below B2.out) HOK.out).mono ?_
    rintro e w3 ⟨u, rfl, hu, hb⟩
    have HB := Lib.hid (below_tr B2.out hb)
    clear hb
    go_wp2_with fail
    go_ret2
    exact ⟨_, rfl, hu.mono B2.out.size (Nat.le_refl _), HB.out⟩
  · rw [codeB_no hok, if_neg (by simp)] at HO
    rw [resS_no hok]
    clear h hok
    go_enter Try.func20, Try.ntmps20
    go_wp2_with fail
    refine HO.out.mono ?_
    rintro e w1 ⟨rfl, hb⟩
    have HB := Lib.hid hb
    clear hb HO
    go_wp2_with fail
    go_ret2
    exact ⟨_, rfl, OwnInts.nil _ _ _, below_al HB.out _⟩


set_option maxHeartbeats 1000000 in
theorem impl_tot (n : Int) (v : Value) (cs : List Int) (w : World) (h : Ints w v cs) :
    Calls Try.prog 29 #[.int .i64 n, v] w fun e w' => e = .returned (.tuple #[.int .i64 (resT n cs).1, .bool (resT n cs).2]) ∧ Below w.heap.size w w' := by
  have HO := Lib.hid (cdi.of_any n v cs w h)
  have HV := Lib.hid h
  obtain ⟨va, vn, vc, rfl⟩ := h.shape
  by_cases hok : okCode n cs
  · rw [codeB_yes hok, if_pos rfl] at HO
    rw [resT_yes hok]
    obtain ⟨m, rfl⟩ : ∃ m : Nat, n = m := ⟨n.toNat, by have := hok.1.1; omega⟩
    have HOK := Lib.hid hok
    rw [Int.toNat_natCast]
    clear h hok
    go_enter Try.func29, Try.ntmps29
    go_wp2_with fail
    refine HO.out.mono ?_
    rintro e w1 ⟨rfl, hb⟩
    have B1 := Lib.hid hb
    obtain ⟨W2, hW2⟩ : ∃ W2, w1.alloc (.cells #[.int .i64 (m : Int), .slice va vn vc] 60) = W2 := ⟨_, rfl⟩
    have B2 : Hid (Below w.heap.size w W2) := Lib.hid (hW2 ▸ below_al B1.out _)
    have K2 : Hid (Blk W2 w1.heap.size 60 #[.int .i64 (m : Int), .slice va vn vc]) := Lib.hid (hW2 ▸ Blk.new w1 _ _)
    obtain ⟨k0, k1⟩ := prt.two_cells K2.out
    clear hb HO
    go_wp2_with fail
    refine (cdu.total m _ cs _ (HV.out.below B2.out) HOK.out).mono ?_
    rintro e w3 ⟨rfl, hb⟩
    have HB := Lib.hid (below_tr B2.out hb)
    clear hb
    go_wp2_with fail
    go_ret2
    exact ⟨rfl, HB.out⟩
  · rw [codeB_no hok, if_neg (by simp)] at HO
    rw [resT_no hok]
    clear h hok
    go_enter Try.func29, Try.ntmps29
    go_wp2_with fail
    refine HO.out.mono ?_
    rintro e w1 ⟨rfl, hb⟩
    have HB := Lib.hid hb
    clear hb HO
    go_wp2_with fail
    go_ret2
    exact ⟨rfl, below_al HB.out _⟩

end Go.Proofs.Ytnjaocgciokpaaa.cdv
