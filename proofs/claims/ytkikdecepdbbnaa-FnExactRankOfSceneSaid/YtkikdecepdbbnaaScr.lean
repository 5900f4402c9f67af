/- Contexts as binary numbers: l7Rows and l7Proof of the model; oddEvents and isProof of the program. -/
import Derived.Test.YtkikdecepdbbnaaSckb
namespace Go.Proofs.Ytkikdecepdbbnaa.scr
open Go.RowKit Go.Deep Go.Proofs.Ytkikdecepdbbnaa.base
open Go.Proofs.Ytkikdecepdbbnaa.ints (ret_int ret_no ret_yes infoInt)
open Go.Proofs.Ytkikdecepdbbnaa.rws (total len_le_total)
open Go.Proofs.Ytkikdecepdbbnaa.val (ret_b)
open Go.Proofs.Ytkikdecepdbbnaa.play (within withinB withinB_yes withinB_no ret_bb)
open Go.Proofs.Ytkikdecepdbbnaa.scm
open Go.Proofs.Ytkikdecepdbbnaa.sck (at_ctx)

def rowsOf (xss : List (List Int)) : List Int := xss.map (fun c => ((mask 0 c : Nat) : Int))
theorem rowsOf_snoc (xss : List (List Int)) (c : List Int) : rowsOf (xss ++ [c]) = rowsOf xss ++ [((mask 0 c : Nat) : Int)] := by simp [rowsOf]
theorem len_rowsOf (xss : List (List Int)) : (rowsOf xss).length = xss.length := by simp [rowsOf]
theorem rowsOf_at (xss : List (List Int)) {k : Nat} (h : k < xss.length) : (rowsOf xss)[k]'(by rw [len_rowsOf]; exact h) = ((mask 0 xss[k] : Nat) : Int) := by simp [rowsOf]
theorem take_rows {xss : List (List Int)} {k : Nat} (h : k < xss.length) : xss.take (k + 1) = xss.take k ++ [xss[k]] := by rw [List.take_succ_eq_append_getElem h]
/-- the events of the contexts at some places, added without carry -/
def odd (xss : List (List Int)) (m : Nat) : List Int → Nat
  | [] => m
  | p :: l => odd xss (mask m (xss.getD p.toNat [])) l
theorem odd_snoc (xss : List (List Int)) (p : Int) : ∀ (l : List Int) (m : Nat), odd xss m (l ++ [p]) = mask (odd xss m l) (xss.getD p.toNat [])
  | [], m => rfl
  | d :: l, m => by simp only [List.cons_append, odd, odd_snoc xss p l]
theorem odd_succ (xss : List (List Int)) {l : List Int} {k : Nat} (h : k < l.length) (m : Nat) : odd xss m (l.take (k + 1)) = mask (odd xss m (l.take k)) (xss.getD (l[k]).toNat []) := by rw [take_snoc h, odd_snoc]
theorem mask_lt12 {n : Int} {c : List Int} (hc : rising 0 (n - 1) c) (hn : n ≤ 12) {m : Nat} (hm : m < 4096) : mask m c < 4096 := by
  have := mask_lt hc hn hm c.length (Nat.le_refl _); rwa [List.take_length] at this
theorem odd_lt {x : Int} {xss : List (List Int)} {ws : List Int} (hok : okScene x xss ws) {l : List Int} (hl : rising 0 ((xss.length : Int) - 1) l) : ∀ k, k ≤ l.length → odd xss 0 (l.take k) < 4096
  | 0, _ => by simp [odd]
  | k + 1, hk => by
    have ih := odd_lt hok hl k (by omega)
    have hr := rising_at hl (k := k) (by omega)
    rw [odd_succ xss (by omega : k < l.length)]
    have hp : (l[k]).toNat < xss.length := by omega
    have e : xss.getD (l[k]).toNat [] = xss[(l[k]).toNat] := by simp [List.getD, hp]
    rw [e]
    exact mask_lt12 (hok.ctx _ hp).2 hok.ev1 ih
def proofB (xss : List (List Int)) (ws l : List Int) : Bool := ((odd xss 0 l : Int) == 0) && (ones ws l % 2 == 1)
theorem ws_at {x : Int} {xss : List (List Int)} {ws l : List Int} (hok : okScene x xss ws) (hl : rising 0 ((xss.length : Int) - 1) l) {k : Nat} (hk : k < l.length) :
    ∃ p : Nat, l[k] = (p : Int) ∧ ∃ (hp : p < xss.length) (hw : p < ws.length), bitAt ws l[k] = ws[p] ∧ 0 ≤ ws[p] ∧ ws[p] ≤ 1 ∧ xss.getD (l[k]).toNat [] = xss[p] := by
  have hr := rising_at hl hk
  have hs := hok.sums.1
  have hp : (l[k]).toNat < xss.length := by omega
  have hw : (l[k]).toNat < ws.length := by omega
  exact ⟨(l[k]).toNat, by omega, hp, hw, by simp [bitAt, List.getD, hw], (hok.sums.2 _ hw).1, (hok.sums.2 _ hw).2, by simp [List.getD, hp]⟩
theorem ones_ws {x : Int} {xss : List (List Int)} {ws l : List Int} (hok : okScene x xss ws) (hl : rising 0 ((xss.length : Int) - 1) l) : ∀ k, k ≤ l.length → 0 ≤ ones ws (l.take k) ∧ ones ws (l.take k) ≤ k :=
  ones_bound (n := (xss.length : Int)) hok.sums hl

theorem pow_lt {e : Nat} (h : e < 12) : 2 ^ e < 4096 := Nat.lt_of_lt_of_le (Nat.pow_lt_pow_right (by omega) h) (by decide)
theorem shl64 {e : Nat} (h : e < 12) : wrap64 ((2 : Int) ^ e) = ((2 ^ e : Nat) : Int) := by
  have h1 := pow_lt h
  have h2 : ((2 : Int) ^ e) = ((2 ^ e : Nat) : Int) := by simp
  rw [h2]
  generalize 2 ^ e = n at *
  unfold wrap64
  omega
theorem or_shl {q e : Nat} (hq : q < 4096) (h : e < 12) : bits .or .i64 (q : Int) (wrap64 ((2 : Int) ^ e)) = ((q ||| 2 ^ e : Nat) : Int) := by
  have h1 := pow_lt h
  rw [shl64 h]
  exact or_i64 _ _ (by omega) (by omega)


set_option maxHeartbeats 2000000 in
theorem spec_rows (x : Int) (u : Value) (xss : List (List Int)) (v : Value) (ws : List Int) (w : World) (h : scene.GV w v ws u xss) (hok : okScene x xss ws) :
    Calls Try.prog 63 #[.agg #[.int .i64 x, u, v]] w fun e w' => ∃ u', e = .returned u' ∧ OwnInts w' w.heap.size w'.heap.size u' (rowsOf xss) ∧ Below w.heap.size w w' := by
  obtain ⟨i0, hi, hz0, hz1, hz2⟩ := info_parts infoInt
  obtain ⟨A, b, o, cap, R, rfl, hcap, hmax, hA, hc⟩ := h.rows.form
  obtain ⟨C, cap', rfl⟩ : ∃ A c, v = .slice A ws.length c := by obtain ⟨A, c, hv, _⟩ := h.ints; exact ⟨A, c, by rw [hv, len_i64s]⟩
  have hx10 : xss.length ≤ 10 := hok.len
  have HCT := Lib.hid (fun k (hk : k < xss.length) => And.intro (hok.ctx k hk).2 (hok.ctx_len hk))
  have HX := Lib.hid hok.ev1
  have K0 := Lib.hid (Blk.new w 28 #[.int .i64 x, .slice A xss.length cap, .slice C ws.length cap'])
  clear h hmax hcap hok
  have O0 : Hid ((w.alloc (.cells #[.int .i64 x, .slice A xss.length cap, .slice C ws.length cap'] 28)).alloc (.cells #[] 3) |>.ownsRow (w.heap.size + 1) 3 1 (.slice (some ⟨w.heap.size + 1, 0, none⟩) 0 0) 0 (i64s (rowsOf (xss.take 0)))) := Lib.hid (by
    have := World.ownsRow_made (base := w.heap.size + 1) (e := 3) (size := 1) (w.alloc (.cells #[.int .i64 x, .slice A xss.length cap, .slice C ws.length cap'] 28)) #[] 0 (by simp) (Nat.zero_le _) rfl
    simpa [i64s, rowsOf] using this)
  have B0 : Hid (Below w.heap.size w ((w.alloc (.cells #[.int .i64 x, .slice A xss.length cap, .slice C ws.length cap'] 28)).alloc (.cells #[] 3))) := Lib.hid (below_al (below_al (Below.refl _ _) _) _)
  have K1 := Lib.hid (K0.out.alloc (.cells #[] 3))
  clear K0
  go_enter Try.func63, Try.ntmps63
  go_wp2_with fail
  go_loopw [3, 4, 5, 6] (fun out i r q wr => ∃ k : Nat, k ≤ xss.length ∧ i = .int .i64 k ∧ (∃ z', r = z') ∧ (∃ z', q = z') ∧ ∃ m, Hid (wr.ownsRow (w.heap.size + 1) 3 1 out m (i64s (rowsOf (xss.take k)))) ∧ Hid (Below w.heap.size w wr) ∧ Hid (Blk wr w.heap.size 28 #[.int .i64 x, .slice A xss.length cap, .slice C ws.length cap'])) (fun _ i _ _ _ => xss.length - (intOf i).toNat)
  case atStart => exact ⟨0, Nat.zero_le _, rfl, ⟨_, rfl⟩, ⟨_, rfl⟩, _, O0, B0, K1⟩
  case round =>
    obtain ⟨k, hk, rfl, ⟨z1, rfl⟩, ⟨z2, rfl⟩, m, hO, hB, hK⟩ := hrel
    clear B0 K1 O0
    obtain ⟨wi, rfl⟩ : ∃ wi : World, wi = wr := ⟨_, rfl⟩
    obtain ⟨c0, c1, c2, c3⟩ := scene.three_cells hK.out
    by_cases hlt : k < xss.length
    · have hkz : (k : Int) < (xss.length : Int) := by omega
      obtain rfl := hA (by omega)
      obtain rfl : m = k := by
        have := hO.out.1
        rw [len_i64s, len_rowsOf, List.length_take] at this; omega
      have g0 := below_cell hB.out _ _ (hc m hlt).1
      obtain ⟨A2, b2, o2, cap2, hv2, hcap2, hmax2, hA2, hc2⟩ := (hc m hlt).2.form
      have HC2 : Hid (∀ j (hj : j < xss[m].length), wi.cell? ⟨b2, o2 + j, none⟩ = some (.int .i64 (xss[m])[j])) := Lib.hid (fun j hj => below_cell hB.out _ _ (hc2 j hj))
      rw [hv2] at g0
      obtain ⟨hct, hcl⟩ := HCT.out m hlt
      have HM := Lib.hid (fun j (hj : j ≤ xss[m].length) => mask_lt hct HX.out (m := 0) (by omega) j hj)
      have HO2 := Lib.hid (fun j (hj : j < xss[m].length) => mask_or hct hj)
      have HE : Hid (∀ j (hj : j < xss[m].length), ∃ e : Nat, (xss[m])[j] = (e : Int) ∧ e < 12) := Lib.hid (fun j hj => ⟨(xss[m])[j].toNat, by have := rising_at hct hj; omega, by have := rising_at hct hj; have := HX.out; omega⟩)
      have HTK : Hid (rowsOf (xss.take (m + 1)) = rowsOf (xss.take m) ++ [((mask 0 xss[m] : Nat) : Int)]) := Lib.hid (by rw [take_rows hlt, rowsOf_snoc])
      have hc := Lib.hid hc
      have HA2 := Lib.hid hA2
      clear hA hv2 hcap2 hmax2 hA2 hc2 hct
      generalize xss[m] = c at *
      go_wp2_with fail
      go_loopw [5, 6] (fun r j wr => ∃ (t q : Nat), t ≤ c.length ∧ j = .int .i64 t ∧ r = .int .i64 (q : Int) ∧ q < 4096 ∧ Hid (q = mask 0 (c.take t)) ∧ wi = wr) (fun _ j _ => c.length - (intOf j).toNat)
      case atStart => exact ⟨0, 0, Nat.zero_le _, rfl, rfl, by omega, by simp [mask]; exact trivial, rfl⟩
      case round =>
        obtain ⟨t, q, ht, rfl, rfl, hq, hH, rfl⟩ := hrel
        by_cases hlt2 : t < c.length
        · have htz : (t : Int) < (c.length : Int) := by omega
          obtain rfl := HA2.out (by omega)
          have g2 := HC2.out t hlt2
          obtain ⟨e, he, he12⟩ := HE.out t hlt2
          rw [he] at g2
          have HQ := or_shl hq he12
          have HN : Hid (q ||| 2 ^ e = mask 0 (c.take (t + 1))) := Lib.hid (by
            have := HO2.out t hlt2
            rw [he, Int.toNat_natCast] at this
            rw [hH.out]; exact this)
          have HL : Hid (q ||| 2 ^ e < 4096) := Lib.hid (by rw [HN.out]; exact HM.out (t + 1) (by omega))
          clear he
          go_wp2_with fail
          go_roundw
          case rel => exact ⟨t + 1, _, by omega, by go_num, rfl, HL.out, HN, by first | rfl | trivial⟩
          case measure => simp [intOf]; omega
        · have htz : ¬ (t : Int) < (c.length : Int) := by omega
          obtain rfl : t = c.length := by omega
          have HQ : Hid (q = mask 0 c) := Lib.hid (by have := hH.out; rwa [List.take_length] at this)
          have hsz2 := hB.out.size
          have hlo := hO.out
          go_wp2_with (at_builtin; go_must (refine wpList_append_own _ rfl (.tmp 36) (.tmp 38) 23 rfl (w.heap.size + 1) 3 i0 (.int .i64 0) 1 8 Try.underlying23 hi hz0 hz1 hz2 rfl (by decide) _ _ _ rfl (hO.out.alloc _) ⟨wi.heap.size, 0, none⟩ 1 1 [.int .i64 (q : Int)] rfl rfl ?c1 ?c2 ?c3 ?c4 ?c5 ?_))
          case c2 => rfl
          case c3 => unfold maxLen; omega
          case c4 => omega
          intro v' w3 hown' hgrow _
          have O3 : Hid (w3.ownsRow (w.heap.size + 1) 3 1 v' (m + 1) (i64s (rowsOf (xss.take (m + 1))))) := Lib.hid (by
            rw [HTK.out, ← app.i64s_snoc, ← HQ.out]; exact hown')
          have B3 : Hid (Below w.heap.size w w3) := Lib.hid ((below_al hB.out _).grown hgrow (by have := hB.out.size; simp; omega) (fun j hj => by have := (hO.out.lt j hj).1; omega))
          have K3 : Hid (Blk w3 w.heap.size 28 #[.int .i64 x, .slice (some ⟨b, o, none⟩) xss.length cap, .slice C ws.length cap']) := Lib.hid ((hgrow.block _ (hK.out.alloc _).lt (fun e => by have := (hO.out.lt _ e.symm).1; omega)).trans (hK.out.alloc _))
          obtain ⟨xa, xl, xc, rfl⟩ := make.shape hown'
          clear hown' hgrow hsz2 hlo c0 c1 c2 c3
          go_wp2_with fail
          go_roundw
          case rel => exact ⟨m + 1, by omega, by go_num, ⟨_, rfl⟩, ⟨_, rfl⟩, _, O3, B3, K3⟩
          case measure => simp [intOf]; omega
    · have hkz : ¬ (k : Int) < (xss.length : Int) := by omega
      obtain rfl : k = xss.length := by omega
      have O2 := Lib.hid (app.ints_of_owns hO.out)
      rw [List.take_length] at O2
      obtain ⟨ra, rn, rc, rfl⟩ := O2.out.ints.shape
      clear hc hA
      go_wp2_with fail
      go_ret
      exact ⟨_, rfl, O2.out.mono (by omega) (Nat.le_refl _), hB.out⟩


end Go.Proofs.Ytkikdecepdbbnaa.scr
