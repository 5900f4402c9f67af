/- l1Own of the model: a copy in memory of its own, of any list but an empty one. -/
import Derived.Test.YtiigfhigmdjooaaApp
namespace Go.Proofs.Ytiigfhigmdjooaa.own
open Go.RowKit Go.Deep Go.Proofs.Ytiigfhigmdjooaa.base
open Go.Proofs.Ytiigfhigmdjooaa.ints (ret_int infoInt infoInts)

set_option maxHeartbeats 1000000 in
theorem l1own (v : Value) (xs : List Int) (w : World) (h : Ints w v xs) (hn : xs.length ≤ 1048576) (z : 0 < xs.length) :
    Calls Try.prog 78 #[v] w fun e w' => ∃ r, e = .returned r ∧ w'.ownsRow w.heap.size 3 1 r xs.length (i64s xs) ∧ Below w.heap.size w w' := by
  obtain ⟨i0, hi, hz0, hz1, hz2⟩ := info_parts infoInt
  have O0 : Hid ((w.alloc (.cells #[] 3)).ownsRow w.heap.size 3 1 (.slice (some ⟨w.heap.size, 0, none⟩) 0 0) 0 (i64s [])) := Lib.hid (by
      have := World.ownsRow_made (base := w.heap.size) (e := 3) (size := 1) w #[] 0 (by simp) (Nat.zero_le _) rfl
      simpa [i64s] using this)
  have B0 := Lib.hid (below_al (Below.refl w.heap.size w) (.cells #[] 3))
  obtain ⟨A, b, o, cap, rfl, hcap, hmax, hA, hc⟩ := h.form
  obtain rfl := hA z
  have G : Hid (∀ (j : Nat) (u : Value), (i64s xs)[j]? = some u → (w.alloc (.cells #[] 3)).cell? (Addr.add ⟨b, o, none⟩ j) = some u) := Lib.hid (fun j u hj => by
    have hl : j < xs.length := by
      rcases Nat.lt_or_ge j xs.length with h' | h'
      · exact h'
      · rw [List.getElem?_eq_none (by rw [len_i64s]; exact h')] at hj; cases hj
    rw [get_i64s hl] at hj
    obtain rfl := Option.some.inj hj
    have e := below_cell B0.out _ _ (hc j hl)
    have ea : Addr.add ⟨b, o, none⟩ j = ⟨b, o + j, none⟩ := by cases j <;> simp [Addr.add]
    rw [ea]; exact e)
  have HN := Lib.hid hn
  clear h hc hA hcap hmax
  go_enter Try.func78, Try.ntmps78
  go_wp2_with (at_builtin; go_must (refine wpList_append_own _ rfl (.tmp 3) (.tmp 4) 39 rfl w.heap.size 3 i0 (.int .i64 0) 1 8 Try.underlying39 hi hz0 hz1 hz2 rfl (by decide) _ _ _ rfl O0.out ⟨b, o, none⟩ xs.length cap (i64s xs) rfl (by rw [len_i64s, Nat.mul_one]) ?c1 ?c2 ?c3 ?c4 ?c5 ?_))
  case c1 => exact G.out
  case c2 => intro u hu; simp [i64s] at hu; obtain ⟨x, _, rfl⟩ := hu; rfl
  case c3 => have := HN.out; unfold maxLen; omega
  case c4 => have := HN.out; omega
  case c5 => first | omega | (simp; omega) | simp
  intro v' w3 hown' hgrow _
  have hb : Below w.heap.size w w3 := B0.out.grown hgrow B0.out.size (fun j hj => (O0.out.lt j hj).1)
  have Q3 : Hid (w3.ownsRow w.heap.size 3 1 v' xs.length (i64s xs)) := Lib.hid (by simpa [i64s] using hown')
  have HB := Lib.hid hb
  clear hown' hgrow hb O0 B0 G
  go_wp2_with fail
  go_ret
  exact ⟨_, rfl, Q3.out, HB.out⟩

end Go.Proofs.Ytiigfhigmdjooaa.own
