/- Tables of the program whose rows are parts of one memory: newTable. -/
import Derived.Test.YtiigfhigmdjooaaPile
import Derived.Test.YtiigfhigmdjooaaMake
import Derived.Deep.OwnRows
namespace Go.Proofs.Ytiigfhigmdjooaa.tab
open Go.RowKit Go.Deep Go.Proofs.Ytiigfhigmdjooaa.base
open Go.Proofs.Ytiigfhigmdjooaa.ints (ret_int infoInt infoInts)

/-- the rows of a table in block g -/
def slots (g Y n : Nat) : List Value := (List.range n).map fun i => .slice (some ⟨g, i * Y, none⟩) Y Y
theorem len_slots (g Y n : Nat) : (slots g Y n).length = n := by simp [slots]
theorem slots_succ (g Y n : Nat) : slots g Y (n + 1) = slots g Y n ++ [.slice (some ⟨g, n * Y, none⟩) Y Y] := by simp [slots, List.range_succ]
theorem slots_at {g Y n : Nat} {i : Nat} (h : i < n) : (slots g Y n)[i]? = some (.slice (some ⟨g, i * Y, none⟩) Y Y) := by simp [slots, h]

/-- a table under way: n rows -/
structure Tab (w W : World) (g : Nat) (v : Value) (n Y M : Nat) (f : Nat → Int) : Prop where
  below : Below w.heap.size w W
  ge : w.heap.size ≤ g
  num : W.rowIs g 3 M (fun i => .int .i64 (f i))
  own : W.ownsRow (g + 1) 39 1 v n (slots g Y n)

theorem mk (c : Nat) (hc : c ≤ 1048576) (w : World) : (Instr.makeSlice 39 (.int .i64 (c : Int)) (.int .i64 (c : Int))).run Try.prog w = .ok (.slice (some ⟨w.heap.size, 0, none⟩) c c) (w.alloc (.cells (madeCells #[.int .i64 0] c) 3)) := by
  obtain ⟨i0, hi, hz0, hz1, hz2⟩ := info_parts infoInt
  have := run_make (P := Try.prog) w 39 3 i0 (.int .i64 0) Try.underlying39 hi hz0 .i64 .i64 c c (by omega) (by omega) (by rw [hz2]; omega) (by omega)
  simp only [Int.toNat_natCast, hz1, Nat.mul_one] at this
  exact this

theorem owns_block {w w' : World} {B e z n : Nat} {v : Value} {xs : List Value} (h : w.ownsRow B e z v n xs) (k : ∀ b, v.ownBlock = some b → w'.heap[b]? = w.heap[b]?) : w'.ownsRow B e z v n xs := by
  rcases h with ⟨h1, h2 | ⟨g, cap, cur, rfl, hb, hh, h⟩⟩
  · exact ⟨h1, .inl h2⟩
  · exact ⟨h1, .inr ⟨g, cap, cur, rfl, hb, (k g rfl).trans hh, h⟩⟩


set_option maxRecDepth 100000 in
set_option maxHeartbeats 2000000 in
theorem newTable (X Y : Nat) (w : World) (hX : 1 ≤ X ∧ X ≤ 3) (hY : 1 ≤ Y ∧ Y ≤ 4) :
    Calls Try.prog 172 #[.int .i64 (X : Int), .int .i64 (Y : Int)] w fun e w' => ∃ v, e = .returned v ∧ Tab w w' w.heap.size v X Y (X * Y) (fun _ => 0) := by
  obtain ⟨s0, si, sz0, sz1, sz2⟩ := info_parts infoInts
  have hM9 : X * Y ≤ 3 * 4 := Nat.mul_le_mul hX.2 hY.2
  obtain ⟨M, hM⟩ : ∃ M, X * Y = M := ⟨_, rfl⟩
  have hw1 : IntKind.i64.wrap ((X : Int) * (Y : Int)) = (M : Int) := by rw [← hM, Int.natCast_mul]; rw [IntWalk.i64_in _ (by rw [← Int.natCast_mul]; omega)]
  have HMU := Lib.hid (fun (r : Nat) (hr : r < X) => show r * Y + Y ≤ M from by
    rw [← hM]; calc r * Y + Y = (r + 1) * Y := by rw [Nat.add_mul, Nat.one_mul]
      _ ≤ X * Y := Nat.mul_le_mul_right _ hr)
  rw [hM]
  rw [hM] at hM9
  have hmk := mk M (by omega)
  have hmks := app.mk0s X (by omega)
  have T0 : Hid (Tab w ((w.alloc (.cells (madeCells #[.int .i64 0] M) 3)).alloc (.cells (madeCells #[.slice none 0 0] X) 39)) w.heap.size (.slice (some ⟨w.heap.size + 1, 0, none⟩) 0 X) 0 Y M (fun _ => 0)) := Lib.hid (by
    refine ⟨below_al (below_al (Below.refl _ _) _) _, Nat.le_refl _, (World.rowIs_made w (.int .i64 0) M 3).alloc _, ?_⟩
    have := World.ownsRow_made (base := w.heap.size + 1) (e := 39) (size := 1) (w.alloc (.cells (madeCells #[.int .i64 0] M) 3)) (madeCells #[.slice none 0 0] X) X (by simp) (by unfold maxLen; omega) (by simp [madeCells])
    simpa [slots] using this)
  clear hM
  go_enter Try.func172, Try.ntmps172
  go_wp2_with fail
  clear hmk hmks hw1
  go_loopw [6, 7, 8, 9, 17] (fun v z7 z8 z9 i wr => ∃ r : Nat, r ≤ X ∧ i = .int .i64 r ∧ (∃ z', z7 = z') ∧ (∃ z', z8 = z') ∧ (∃ z', z9 = z') ∧ Hid (Tab w wr w.heap.size v r Y M (fun _ => 0))) (fun _ _ _ _ i _ => X - (intOf i).toNat)
  case atStart => exact ⟨0, Nat.zero_le _, rfl, ⟨_, rfl⟩, ⟨_, rfl⟩, ⟨_, rfl⟩, T0⟩
  case round =>
    obtain ⟨r, hr, rfl, ⟨z7, rfl⟩, ⟨z8, rfl⟩, ⟨z9, rfl⟩, hT⟩ := hrel
    clear T0
    obtain ⟨wi, rfl⟩ : ∃ wi : World, wi = wr := ⟨_, rfl⟩
    by_cases hlt : r < X
    · have hkz : (r : Int) < (X : Int) := by omega
      have hmu := HMU.out r hlt
      obtain ⟨S, hS⟩ : ∃ S, r * Y = S := ⟨_, rfl⟩
      have hSS := Lib.hid (slots_succ w.heap.size Y r)
      have hLL := Lib.hid (len_slots w.heap.size Y r)
      have k1 : IntKind.i64.wrap ((r : Int) * (Y : Int)) = (S : Int) := by rw [← hS, Int.natCast_mul]; rw [IntWalk.i64_in _ (by rw [← Int.natCast_mul]; omega)]
      have k2 : IntKind.i64.wrap ((r : Int) + 1) = (r : Int) + 1 := IntWalk.i64_in _ (by omega)
      have hE : ((r : Int) + 1) * (Y : Int) = ((S + Y : Nat) : Int) := by rw [← hS, Int.add_mul, Int.natCast_add, Int.natCast_mul]; omega
      have k3 : IntKind.i64.wrap (((r : Int) + 1) * (Y : Int)) = ((S + Y : Nat) : Int) := by rw [hE]; exact IntWalk.i64_in _ (by omega)
      rw [hS] at hmu hSS
      obtain ⟨E, hEE⟩ : ∃ E, S + Y = E := ⟨_, rfl⟩
      rw [hEE] at k3 hmu
      have f1 : (0 : Int) ≤ (S : Int) := by omega
      have f2 : (S : Int) ≤ (E : Int) := by omega
      have f3 : (E : Int) ≤ (M : Int) := by omega
      have f4 : (0 : Int) ≤ (E : Int) := by omega
      have hES := Lib.hid (show E - S = Y from by omega)
      have hne : ¬ E = S := by omega
      have HEE := Lib.hid hEE
      clear hEE
      have T1 : Hid ((wi.alloc (.cells #[.slice (some ⟨w.heap.size, S, none⟩) (E - S) (E - S)] 39)).ownsRow (w.heap.size + 1) 39 1 u6 r (slots w.heap.size Y r)) := Lib.hid (app.owns_below hT.out.own (below_al (Below.refl _ _) _))
      clear hE hS
      have hgz : w.heap.size < wi.heap.size := hT.out.num.lt
      have NU := Lib.hid (hT.out.num.alloc (.cells #[.slice (some ⟨w.heap.size, S, none⟩) (E - S) (E - S)] 39))
      have BB := Lib.hid (below_al hT.out.below (.cells #[.slice (some ⟨w.heap.size, S, none⟩) (E - S) (E - S)] 39))
      go_wp2_with (at_builtin; go_must (refine wpList_append_own _ rfl (.tmp 27) (.tmp 33) 22 rfl (w.heap.size + 1) 39 s0 (.slice none 0 0) 1 24 Try.underlying22 si sz0 sz1 sz2 rfl (by decide) _ _ _ rfl T1.out ⟨wi.heap.size, 0, none⟩ 1 1 [.slice (some ⟨w.heap.size, S, none⟩) (E - S) (E - S)] rfl rfl ?d1 ?d2 ?d3 ?d4 ?d5 ?_))
      try (case d1 => exact app.one_at _ _ _)
      case d2 => first | rfl | (intro u hu; simp at hu; subst hu; rfl)
      case d3 => unfold maxLen; omega
      case d4 => omega
      try (case d5 => first | omega | (simp; omega))
      intro v' w3 hown' hgrow _
      have T3 : Hid (Tab w w3 w.heap.size v' (r + 1) Y M (fun _ => 0)) := Lib.hid (by
        refine ⟨BB.out.grown hgrow BB.out.size (fun j hj => by have := (T1.out.lt j hj).1; omega), Nat.le_refl _, NU.out.of_block (hgrow.block _ (by simp; omega) (fun e => by have := (T1.out.lt _ e.symm).1; omega)), ?_⟩
        rw [hSS.out]
        have := hown'
        rw [hES.out] at this
        exact this)
      obtain ⟨xa, xl, xc, rfl⟩ := make.shape hown'
      clear hown' hgrow T1 NU BB hT
      go_wp2_with fail
      go_roundw
      case rel => exact ⟨r + 1, by omega, by go_num, ⟨_, rfl⟩, ⟨_, rfl⟩, ⟨_, rfl⟩, T3⟩
      case measure => simp [intOf]; omega
    · have hkz : ¬ (r : Int) < (X : Int) := by omega
      obtain rfl : r = X := by omega
      obtain ⟨xa, xl, xc, rfl⟩ := make.shape hT.out.own
      go_wp2_with fail
      go_ret
      exact ⟨_, rfl, hT.out⟩


theorem splice {W : World} {g M off : Nat} {t : TypeId} {cur : Array Value} {f : Nat → Value} (hg : W.heap[g]? = some (.cells cur t (0, 0))) (hs : cur.size = M) (hf : ∀ i, i < M → cur[i]? = some (f i)) (cs : List Value) (hfit : off + cs.length ≤ M) :
    (W.setRow g (cur.toList.take off ++ (cs ++ cur.toList.drop (off + cs.length))).toArray).rowIs g t M (fun i => if off ≤ i ∧ i < off + cs.length then cs.getD (i - off) .nilFunc else f i) := by
  refine ⟨_, setRow_heap W g cur _ t (0, 0) hg, by simp; omega, fun i hi => ?_⟩
  simp only [List.getElem?_toArray]
  have hl : (cur.toList.take off).length = off := by simp; omega
  by_cases h1 : i < off
  · rw [if_neg (by omega), List.getElem?_append_left (by omega), List.getElem?_take_of_lt h1]
    have := hf i hi
    simpa using this
  · rw [List.getElem?_append_right (by omega), hl]
    by_cases h2 : i < off + cs.length
    · rw [if_pos ⟨by omega, h2⟩, List.getElem?_append_left (by omega)]
      have hlt : i - off < cs.length := by omega
      simp [List.getD, hlt]
    · rw [if_neg (by omega), List.getElem?_append_right (by omega), List.getElem?_drop, show off + cs.length + (i - off - cs.length) = i from by omega]
      have := hf i hi
      simpa using this

theorem Tab.cells {w W : World} {g tb to c X Y M : Nat} {f : Nat → Int} (h : Tab w W g (.slice (some ⟨tb, to, none⟩) X c) X Y M f) {a : Nat} (ha : a < X) : W.cell? ⟨tb, to + a, none⟩ = some (.slice (some ⟨g, a * Y, none⟩) Y Y) := by
  obtain ⟨A, cap, hv, _, _, hc⟩ := app.sl_of_owns h.own
  obtain ⟨b, o, hA, hcell⟩ := hc a _ (slots_at ha)
  injection hv with e1 _ _
  rw [hA] at e1
  injection e1 with e1
  injection e1 with e1 e2
  subst e1; subst e2
  exact hcell
theorem Tab.form {w W : World} {g X Y M : Nat} {v : Value} {f : Nat → Int} (h : Tab w W g v X Y M f) (hX : 0 < X) : ∃ tb to c, v = .slice (some ⟨tb, to, none⟩) X c ∧ g < tb := by
  obtain ⟨A, cap, hv, _, _, hc⟩ := app.sl_of_owns h.own
  obtain ⟨b, o, hA, hcell⟩ := hc 0 _ (slots_at hX)
  refine ⟨b, o, cap, by rw [hv, hA, len_slots], ?_⟩
  have := h.own.lt b (by rw [hv, hA]; rfl)
  omega


end Go.Proofs.Ytiigfhigmdjooaa.tab
