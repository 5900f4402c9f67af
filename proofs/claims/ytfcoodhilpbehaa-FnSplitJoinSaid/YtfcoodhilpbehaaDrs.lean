/- The draws of strings: DrawSplitString, DrawLessString; vBig; LessString of both sides. -/
import Derived.Test.YtfcoodhilpbehaaBase
import Derived.Test.YtfcoodhilpbehaaChecked
import Derived.Test.YtfcoodhilpbehaaCur
import Derived.Deep.RegionHeld3
namespace Go.Proofs.Ytfcoodhilpbehaa.drs
open Go.RowKit Go.Deep Go.Proofs.Ytfcoodhilpbehaa.base
open Go.Proofs.Ytfcoodhilpbehaa.sta Go.Proofs.Ytfcoodhilpbehaa.cur

theorem hand_new {W : World} {A : Option Addr} {n cp : Nat} (h : Bytes W W.heap.size A n) (sd : Int) : Hand (W.alloc (.cells #[.slice A n cp, .int .i64 0, .int .u64 sd] 37)) W.heap.size A n cp 0 := by
  refine ⟨⟨0, sd, Nat.le_refl _, Blk.new W _ _⟩, fun j hj => ?_⟩
  obtain ⟨b, o, x, hA, hx, hb, hc⟩ := h j hj
  exact ⟨b, o, x, hA, hx, hb, below_cell (below_al (Below.refl _ W) _) _ _ hc⟩
theorem kept_new {W W1 : World} {v : Obj} (h : Kept W.heap.size (W.alloc v) W1) : Below W.heap.size W W1 := (below_al (Below.refl _ W) v).trans h.1
def seps : List ByteArray := [⟨#[44]⟩, ⟨#[44]⟩, ⟨#[32]⟩, ⟨#[]⟩, ⟨#[44, 44]⟩]
theorem seps_size : ∀ s ∈ seps, s.size ≤ 16 := by decide

set_option maxHeartbeats 1000000 in
theorem split_draw (A : Option Addr) (n cp : Nat) (W : World) (h : Bytes W W.heap.size A n) :
    Calls Try.prog 5 #[.slice A n cp] W fun e W' => ∃ s sep : ByteArray, s.size ≤ 16 ∧ sep.size ≤ 16 ∧ e = .returned (.tuple #[.string s, .string sep]) ∧ Below W.heap.size W W' := by
  have H0 := Lib.hid (hand_new (cp := cp) h 0)
  have HA := Lib.hid (any1_any W.heap.size A n cp 0 _ H0.out (by omega))
  clear h
  go_enter Try.func5, Try.ntmps5
  go_wp2_with fail
  refine HA.out.mono ?_
  rintro e W1 ⟨s, hs, rfl, hh, hk⟩
  have H1 := Lib.hid hh
  have K1 := Lib.hid hk
  have HO := Lib.hid (of_lit W.heap.size A n cp 2 seps W1 hh (by omega) (by decide))
  have S1 := Lib.hid hs
  clear hh hk hs
  go_wp2_with fail
  refine HO.out.mono ?_
  rintro e W2 ⟨sep, hsep, rfl, hh, hk⟩
  have K2 := Lib.hid (K1.out.trans hk)
  have S2 := Lib.hid (seps_size sep hsep)
  clear hh hk hsep
  go_wp2_with fail
  go_ret2
  exact ⟨s, sep, S1.out, S2.out, rfl, kept_new K2.out⟩


set_option maxHeartbeats 1000000 in
theorem less_draw (A : Option Addr) (n cp : Nat) (W : World) (h : Bytes W W.heap.size A n) :
    Calls Try.prog 10 #[.slice A n cp] W fun e W' => ∃ s t : ByteArray, s.size ≤ 16 ∧ t.size ≤ 16 ∧ e = .returned (.tuple #[.string s, .string t]) ∧ Below W.heap.size W W' := by
  have H0 := Lib.hid (hand_new (cp := cp) h 0)
  have HA := Lib.hid (any1_any W.heap.size A n cp 0 _ H0.out (by omega))
  clear h
  go_enter Try.func10, Try.ntmps10
  go_wp2_with fail
  refine HA.out.mono ?_
  rintro e W1 ⟨s, hs, rfl, hh, hk⟩
  have K1 := Lib.hid hk
  have HO := Lib.hid (any1_any W.heap.size A n cp 2 W1 hh (by omega))
  have S1 := Lib.hid hs
  clear hh hk hs
  go_wp2_with fail
  refine HO.out.mono ?_
  rintro e W2 ⟨t, ht, rfl, hh, hk⟩
  have K2 := Lib.hid (K1.out.trans hk)
  have S2 := Lib.hid ht
  clear hh hk ht
  go_wp2_with fail
  go_ret2
  exact ⟨s, t, S1.out, S2.out, rfl, kept_new K2.out⟩


theorem big_any (A : Option Addr) (n cp : Nat) (W : World) :
    Calls Try.prog 4 #[.slice A n cp] W fun e W' => e = .returned (.bool (decide ((n : Int) > 65536))) ∧ Below W.heap.size W W' := by
  go_enter Try.func4, Try.ntmps4
  go_wp2_with fail
  go_ret
  refine ⟨rfl, ?_⟩
  repeat (first | exact Below.refl _ _ | refine below_dr ?_ | refine below_al ?_ _)


theorem less_impl (s t : ByteArray) (W : World) :
    Calls Try.prog 11 #[.string s, .string t] W fun e W' => e = .returned (.bool (Op.bytesLess s.toList t.toList)) ∧ Below W.heap.size W W' := by
  go_enter Try.func11, Try.ntmps11
  go_wp2_with fail
  go_ret
  refine ⟨rfl, ?_⟩
  repeat (first | exact Below.refl _ _ | refine below_dr ?_ | refine below_al ?_ _)


theorem less_spec (s t : ByteArray) (W : World) :
    Calls Try.prog 12 #[.string s, .string t] W fun e W' => e = .returned (.bool (Op.bytesLess s.toList t.toList)) ∧ Below W.heap.size W W' := by
  go_enter Try.func12, Try.ntmps12
  go_wp2_with fail
  go_ret
  refine ⟨rfl, ?_⟩
  repeat (first | exact Below.refl _ _ | refine below_dr ?_ | refine below_al ?_ _)

end Go.Proofs.Ytfcoodhilpbehaa.drs
