/- AgreementsOf of the model and of the program. -/
import Derived.Test.YtneonebgneonkaaRow
import Derived.Test.YtneonebgneonkaaApp
namespace Go.Proofs.Ytneonebgneonkaa.agrs
open Go.RowKit Go.Deep Go.Proofs.Ytneonebgneonkaa.base
open Go.Proofs.Ytneonebgneonkaa.val (okBox okRow okSizes boxB boxB_yes boxB_no)
open Go.Proofs.Ytneonebgneonkaa.ints (ret_int infoInt)
open Go.Proofs.Ytneonebgneonkaa.rws (total)
open Go.Proofs.Ytneonebgneonkaa.row (agr at_)

def upto (xss : List (List Int)) (k : Nat) : List Int := (List.range k).map (agr xss)
theorem upto_succ (xss : List (List Int)) (k : Nat) : upto xss (k + 1) = upto xss k ++ [agr xss k] := by simp [upto, List.range_succ]
theorem len_upto (xss : List (List Int)) (k : Nat) : (upto xss k).length = k := by simp [upto]
open Classical in
noncomputable def data (x y wh : Int) (xss : List (List Int)) : List Int := if okBox x y wh xss then upto xss xss.length else []
theorem data_yes {x y wh : Int} {xss : List (List Int)} (h : okBox x y wh xss) : data x y wh xss = upto xss xss.length := if_pos h
theorem data_no {x y wh : Int} {xss : List (List Int)} (h : ¬ okBox x y wh xss) : data x y wh xss = [] := if_neg h
theorem len_data (x y wh : Int) (xss : List (List Int)) : (data x y wh xss).length ≤ 1048576 := by
  by_cases h : okBox x y wh xss
  · rw [data_yes h, len_upto]; have := val.ok_len h; omega
  · rw [data_no h]; simp
theorem ret_sb {u : Value} {a b : Bool} (h : a = b) : Ending.returned (.tuple #[u, .bool a]) = .returned (.tuple #[u, .bool b]) := by rw [h]



theorem at_cast (Y a c : Nat) : at_ (Y : Int) (a : Int) (c : Int) = a * Y + c := by
  unfold at_
  have : ((a : Int) * (Y : Int) + (c : Int)) = ((a * Y + c : Nat) : Int) := by simp
  rw [this, Int.toNat_natCast]

set_option maxHeartbeats 4000000 in
theorem impl_any (x y wh : Int) (v : Value) (xss : List (List Int)) (w : World) (h : IRows w v xss) (hn : total xss ≤ 1048576) :
    Calls Try.prog 156 #[.agg #[.int .i64 x, .int .i64 y, .int .i64 wh, v]] w fun e w' => ∃ u, e = .returned (.tuple #[u, .bool (boxB x y wh xss)]) ∧ OwnInts w' w.heap.size w'.heap.size u (data x y wh xss) ∧ Below w.heap.size w w' := by
  obtain ⟨i0, hi, hz0, hz1, hz2⟩ := info_parts infoInt
  obtain ⟨va, vn, vc, rfl⟩ := h.shape
  have H := Lib.hid h
  clear h
  have hB0 := Lib.hid (below_al (Below.refl w.heap.size w) (.cells #[.int .i64 x, .int .i64 y, .int .i64 wh, .slice va vn vc] 48))
  have hK0 := Lib.hid (Blk.new w 48 #[.int .i64 x, .int .i64 y, .int .i64 wh, .slice va vn vc])
  by_cases hok : okBox x y wh xss
  · have hr := val.impl_any x y wh _ xss _ (H.out.below hB0.out) hn
    rw [boxB_yes hok] at hr ⊢
    rw [data_yes hok]
    have hl9 := val.ok_len hok
    obtain ⟨rfl⟩ : vn = xss.length := by obtain ⟨A, _, _, cap, _, hv, _⟩ := H.out.form; injection hv
    obtain ⟨X, rfl⟩ : ∃ X : Nat, x = X := ⟨x.toNat, by have := hok.1.1.1; omega⟩
    obtain ⟨Y, rfl⟩ : ∃ Y : Nat, y = Y := ⟨y.toNat, by have := hok.1.2.1; omega⟩
    have hX := hok.1.1
    have hY := hok.1.2
    have hXY : xss.length = X * Y := by have := hok.2.2.1; exact_mod_cast this
    have HXY := Lib.hid hXY
    have hmk := app.mk0 xss.length (by omega)
    have HOK := Lib.hid hok
    have HR := Lib.hid hr
    clear hok hr hXY
    go_enter Try.func156, Try.ntmps156
    go_wp2_with fail
    refine HR.out.mono ?_
    rintro e w1 ⟨rfl, hb⟩
    have B1 := Lib.hid (below_tr hB0.out hb)
    have K1 := Lib.hid (hK0.out.below hb)
    obtain ⟨c0, c1, c2, c3, c4⟩ := four_cells K1.out
    clear hb HR hB0 hK0
    go_wp2_with fail
    clear hmk
    have B2 := Lib.hid (below_al B1.out (.cells (madeCells #[.int .i64 0] xss.length) 3))
    have K2 := Lib.hid (K1.out.alloc (.cells (madeCells #[.int .i64 0] xss.length) 3))
    have O2 : Hid ((w1.alloc (.cells (madeCells #[.int .i64 0] xss.length) 3)).ownsRow (w.heap.size + 1) 3 1 (.slice (some ⟨w1.heap.size, 0, none⟩) 0 xss.length) 0 (i64s (upto xss (0 * Y)))) :=
      Lib.hid (by
        have := World.ownsRow_made (base := w.heap.size + 1) (e := 3) (size := 1) w1 (madeCells #[.int .i64 0] xss.length) xss.length c4 (by unfold maxLen; omega) (by simp [madeCells])
        simpa [i64s, upto] using this)
    clear c0 c1 c2 c3 c4 B1 K1
    go_loopw [4, 16] (fun out i wr => ∃ a : Nat, a ≤ X ∧ i = .int .i64 a ∧ Hid (wr.ownsRow (w.heap.size + 1) 3 1 out (a * Y) (i64s (upto xss (a * Y)))) ∧ Hid (Below w.heap.size w wr) ∧ Hid (Blk wr w.heap.size 48 #[.int .i64 (X : Int), .int .i64 (Y : Int), .int .i64 wh, .slice va xss.length vc])) (fun _ i _ => X - (intOf i).toNat)
    case atStart => exact ⟨0, Nat.zero_le _, rfl, by simpa using O2, B2, K2⟩
    case round =>
      obtain ⟨a, ha, rfl, hO, hB, hK⟩ := hrel
      clear B2 K2 O2
      obtain ⟨wo, rfl⟩ : ∃ wo : World, wo = wr := ⟨_, rfl⟩
      obtain ⟨c0, c1, c2, c3, c4⟩ := four_cells hK.out
      by_cases hlt : a < X
      · have hkz : (a : Int) < (X : Int) := by omega
        go_wp2_with fail
        clear c0 c1 c2 c3 c4
        go_loopw [4, 21] (fun out j wi => ∃ c : Nat, c ≤ Y ∧ j = .int .i64 c ∧ Hid (wi.ownsRow (w.heap.size + 1) 3 1 out (a * Y + c) (i64s (upto xss (a * Y + c)))) ∧ Hid (Below w.heap.size w wi) ∧ Hid (Blk wi w.heap.size 48 #[.int .i64 (X : Int), .int .i64 (Y : Int), .int .i64 wh, .slice va xss.length vc])) (fun _ j _ => Y - (intOf j).toNat)
        case atStart => exact ⟨0, Nat.zero_le _, rfl, hO, hB, hK⟩
        case round =>
          obtain ⟨c, hc, rfl, hO, hB, hK⟩ := hrel
          obtain ⟨c0, c1, c2, c3, c4⟩ := four_cells hK.out
          by_cases hlc : c < Y
          · have hkc : (c : Int) < (Y : Int) := by omega
            have hrow := row.rowof X Y wh a c (.slice va xss.length vc) xss _ (H.out.below hB.out) HOK.out (by omega) hkz (by omega) hkc
            have hat := row.at_lt HOK.out (i := (a : Int)) (j := (c : Int)) (by omega) hkz (by omega) hkc
            rw [at_cast] at hrow hat
            obtain ⟨b01, b02⟩ := row.nn_bd HOK.out hat (k := 0) (by omega)
            obtain ⟨b11, b12⟩ := row.nn_bd HOK.out hat (k := 1) (by omega)
            obtain ⟨b21, b22⟩ := row.nn_bd HOK.out hat (k := 2) (by omega)
            obtain ⟨b31, b32⟩ := row.nn_bd HOK.out hat (k := 3) (by omega)
            have HG : Hid (agr xss (a * Y + c) = row.nn xss (a * Y + c) 0 - row.nn xss (a * Y + c) 1 - row.nn xss (a * Y + c) 2 + row.nn xss (a * Y + c) 3) := Lib.hid rfl
            have HR := Lib.hid hrow
            have HT := Lib.hid hat
            clear hrow hat
            generalize row.nn xss (a * Y + c) 0 = n0 at *
            generalize row.nn xss (a * Y + c) 1 = n1 at *
            generalize row.nn xss (a * Y + c) 2 = n2 at *
            generalize row.nn xss (a * Y + c) 3 = n3 at *
            go_wp2_with fail
            refine HR.out.mono ?_
            rintro e w2 ⟨rfl, hb⟩
            have O2 := Lib.hid (app.owns_below hO.out hb)
            have B2 := Lib.hid (below_tr hB.out hb)
            have K2 := Lib.hid (hK.out.below hb)
            clear hb hO hB hK HR c0 c1 c2 c3 c4
            go_wp2_with fail
            refine (row.agreement n0 n1 n2 n3 _ b01 b02 b11 b12 b21 b22 b31 b32).mono ?_
            rintro e w3 ⟨rfl, hb⟩
            have O3 := Lib.hid (app.owns_below O2.out hb)
            have B3 := Lib.hid (below_tr B2.out hb)
            have K3 := Lib.hid (K2.out.below hb)
            have hsz := B3.out.size
            clear hb O2 B2 K2 b01 b02 b11 b12 b21 b22 b31 b32
            go_wp2_with (at_builtin; refine wpList_append_own _ rfl (.tmp 24) (.tmp 30) 22 rfl (w.heap.size + 1) 3 i0 (.int .i64 0) 1 8 Try.underlying22 hi hz0 hz1 hz2 rfl (by decide) _ _ _ rfl (O3.out.alloc _) ⟨w3.heap.size, 0, none⟩ 1 1 [.int .i64 (n0 - n1 - n2 + n3)] rfl rfl ?c1 ?c2 ?c3 ?c4 ?c5 ?_)
            case c1 => exact app.one_at _ _ _
            case c2 => intro u hu; simp at hu; subst hu; rfl
            case c3 => have := HT.out; unfold maxLen; omega
            case c4 => have := HT.out; omega
            case c5 => have := K3.out.lt; simp; omega
            intro v' w4 hown' hgrow _
            have B4 := Lib.hid ((below_al B3.out _).grown hgrow (by simp; omega) (fun j hj => Nat.le_of_succ_le (O3.out.lt j hj).1))
            have K4 : Hid (Blk w4 w.heap.size 48 #[.int .i64 (X : Int), .int .i64 (Y : Int), .int .i64 wh, .slice va xss.length vc]) := Lib.hid ((hgrow.block _ (K3.out.alloc _).lt (by
              intro e
              have := (O3.out.lt _ e.symm).1
              omega)).trans (K3.out.alloc _))
            have O4 : Hid (w4.ownsRow (w.heap.size + 1) 3 1 v' (a * Y + (c + 1)) (i64s (upto xss (a * Y + (c + 1))))) := Lib.hid (by
              rw [show a * Y + (c + 1) = a * Y + c + 1 from rfl, upto_succ, HG.out, ← app.i64s_snoc]; exact hown')
            clear hown' hgrow O3 B3 K3
            go_wp2_with fail
            go_roundw
            case rel => exact ⟨c + 1, by omega, by go_num, O4, B4, K4⟩
            case measure => simp [intOf]; omega
          · have hkc : ¬ (c : Int) < (Y : Int) := by omega
            obtain rfl : c = Y := by omega
            go_wp2_with fail
            go_roundw
            case rel => exact ⟨a + 1, by omega, by go_num, by rw [Nat.add_mul, Nat.one_mul]; exact hO, hB, hK⟩
            case measure => simp [intOf]; omega
      · have hkz : ¬ (a : Int) < (X : Int) := by omega
        obtain rfl : a = X := by omega
        go_wp2_with fail
        go_ret2
        refine ⟨_, rfl, ?_, hB.out⟩
        have := (app.ints_of_owns hO.out).mono (B' := w.heap.size) (by omega) (Nat.le_refl _)
        rw [HXY.out]
        exact this
  · have hr := val.impl_any x y wh _ xss _ (H.out.below hB0.out) hn
    rw [boxB_no hok] at hr ⊢
    rw [data_no hok]
    have HR := Lib.hid hr
    clear hok hr hK0
    go_enter Try.func156, Try.ntmps156
    go_wp2_with fail
    refine HR.out.mono ?_
    rintro e w1 ⟨rfl, hb⟩
    have B1 := Lib.hid (below_tr hB0.out hb)
    clear hb HR hB0
    go_wp2_with fail
    go_ret2
    exact ⟨_, rfl, OwnInts.nil _ _ _, B1.out⟩

end Go.Proofs.Ytneonebgneonkaa.agrs
