/- The outcomes of relays of two and of four bits; rightNumber of the program. -/
import Derived.Test.YtnjaocgciokpaabRly
namespace Go.Proofs.Ytnjaocgciokpaab.rlo
open Go.RowKit Go.Deep Go.Proofs.Ytnjaocgciokpaab.base
open Go.Proofs.Ytnjaocgciokpaab.ints (ret_int infoInt)
open Go.Proofs.Ytnjaocgciokpaab.val (okBox)
open Go.Proofs.Ytnjaocgciokpaab.row (nn at_)
open Go.Proofs.Ytnjaocgciokpaab.oco
open Go.Proofs.Ytnjaocgciokpaab.ocs (two_cells' three_cells' four_cells' R)

theorem sz1 (W : World) : (Go.sizeOf 3).run Try.prog W = .ok 1 W := by kernel_rfl
theorem cut (b0 o0 n c0 : Nat) (h1 : 1 ≤ n) (hn : n ≤ c0) : ∃ o5, (2 ≤ n → o5 = o0 + 1) ∧
    ∀ W, (Instr.slice 44 (.slice (some ⟨b0, o0, none⟩) n c0) (some (.int .i64 1)) none none).run Try.prog W = .ok (.slice (some ⟨b0, o5, none⟩) (n - 1) (c0 - 1)) W := by
  have ht' : Try.prog.underlying 44 = some (.slice (Try.prog.elem 44)) := by simp [Program.elem]
  have he : Try.prog.elem 44 = 3 := by simp [Program.elem]
  refine ⟨if c0 = 1 then o0 else o0 + 1, fun h => by rw [if_neg (by omega)], fun W => ?_⟩
  rw [run_slice_l W 44 _ _ _ ht' .i64 1 (by omega) (by omega), he, sz1]
  by_cases h0 : c0 = 1
  · simp [Result.andThen, sliced, h0]
  · simp [Result.andThen, sliced, Addr.add, h0]
theorem fine_leaf {k : Nat} (h : k ≤ 1) : Fine 1 [(k, 0, 1)] := by
  intro p hp
  simp at hp
  subst hp
  exact ⟨h, Nat.zero_le _, show (0 : Int) ≤ 1 by decide, show (1 : Int) ≤ 1 by decide⟩
def pair (xss : List (List Int)) (y k0 k1 : Nat) : List Oc := comb y (R xss (y : Int)) [(k0, 0, 1)] [(k1, 0, 1)]
theorem len_pair (xss : List (List Int)) (y k0 k1 : Nat) : (pair xss y k0 k1).length = 4 := by unfold pair; rw [len_comb]; rfl
theorem R_bd {wh : Int} {xss : List (List Int)} (hok : okBox 2 2 wh xss) {y : Nat} (hy : y ≤ 1) : ∀ x a, x ≤ 1 → a < 4 → 0 ≤ R xss (y : Int) x a ∧ R xss (y : Int) x a ≤ wh := by
  intro x a hx ha
  have hr := row.at_lt hok (i := (x : Int)) (j := (y : Int)) (by omega) (by omega) (by omega) (by omega)
  obtain ⟨h1, h2, _⟩ := row.row_ok hok hr
  have h3 := h2 a (by rw [h1]; exact ha)
  unfold R
  rw [← row.nn_get _ _ _ (by rw [h1]; exact ha)]
  exact h3
theorem fine_pair {wh : Int} {xss : List (List Int)} (hok : okBox 2 2 wh xss) {y k0 k1 : Nat} (hy : y ≤ 1) (h0 : k0 ≤ 1) (h1 : k1 ≤ 1) : Fine wh (pair xss y k0 k1) := by
  have := fine_comb (y := y) (fine_leaf h0) (fine_leaf h1) (R_bd hok hy)
  simpa [pair] using this


set_option maxHeartbeats 2000000 in
theorem two (y : Nat) (hy : y ≤ 1) (b k0 k1 : Nat) (h0 : k0 ≤ 1) (h1 : k1 ≤ 1) (wh : Int) (bv : Value) (xss : List (List Int)) (ab ao : Nat) (w : World)
    (hP : Blk w b 145 #[.int .i64 (k0 : Int), .slice none 0 0, .int .i64 (k1 : Int), .slice none 0 0]) (hbx : IRows w bv xss) (hok : okBox 2 2 wh xss) (hask : w.cell? ⟨ab, ao, none⟩ = some (.int .i64 (y : Int))) :
    Calls Try.prog 127 #[.agg #[.int .i64 0, .slice (some ⟨b, 0, none⟩) 2 2], .agg #[.int .i64 2, .int .i64 2, .int .i64 wh, bv], .slice (some ⟨ab, ao, none⟩) 1 1] w fun e w' => ∃ u, e = .returned u ∧ Got w w' u (pair xss y k0 k1) := by
  obtain ⟨p0, p1, p2, p3⟩ := four_cells' hP
  obtain ⟨oo, _, hcut⟩ := cut ab ao 1 1 (Nat.le_refl _) (Nat.le_refl _)
  obtain ⟨va, vn, vc, hbv⟩ := hbx.shape
  have hy01 : y = 0 ∨ y = 1 := by omega
  rcases hy01 with rfl | rfl
  · exact ocs.step0 0 b k0 k1 none none 0 0 0 0 wh bv xss ab ao 1 1 oo 0 0 [(k0, 0, 1)] [(k1, 0, 1)] 1 w p0 p1 p2 p3 hbx hok hask (Nat.le_refl _) hcut ⟨Nat.le_refl _, show 1 ≤ 4 by decide⟩ ⟨Nat.le_refl _, show 1 ≤ 4 by decide⟩ (fine_leaf h0) (fine_leaf h1) ⟨by decide, by decide⟩
      (fun W _ => by rw [hbv]; exact rly.leaf k0 wh va vn vc _ _ _ W) (fun W _ => by rw [hbv]; exact rly.leaf k1 wh va vn vc _ _ _ W)
  · exact ocs.step1 0 b k0 k1 none none 0 0 0 0 wh bv xss ab ao 1 1 oo 0 0 [(k0, 0, 1)] [(k1, 0, 1)] 1 w p0 p1 p2 p3 hbx hok hask (Nat.le_refl _) hcut ⟨Nat.le_refl _, show 1 ≤ 4 by decide⟩ ⟨Nat.le_refl _, show 1 ≤ 4 by decide⟩ (fine_leaf h0) (fine_leaf h1) ⟨by decide, by decide⟩
      (fun W _ => by rw [hbv]; exact rly.leaf k0 wh va vn vc _ _ _ W) (fun W _ => by rw [hbv]; exact rly.leaf k1 wh va vn vc _ _ _ W)

def chain (xss : List (List Int)) (y z a0 a1 b0 b1 : Nat) : List Oc := comb y (R xss (y : Int)) (pair xss z a0 a1) (pair xss z b0 b1)
set_option maxHeartbeats 2000000 in
theorem four (y z : Nat) (hy : y ≤ 1) (hz : z ≤ 1) (b p q a0 a1 b0 b1 : Nat) (h0 : a0 ≤ 1) (h1 : a1 ≤ 1) (h2 : b0 ≤ 1) (h3 : b1 ≤ 1) (wh : Int) (bv : Value) (xss : List (List Int)) (ab : Nat) (w : World)
    (hB : Blk w b 145 #[.int .i64 0, .slice (some ⟨p, 0, none⟩) 2 2, .int .i64 0, .slice (some ⟨q, 0, none⟩) 2 2])
    (hP : Blk w p 145 #[.int .i64 (a0 : Int), .slice none 0 0, .int .i64 (a1 : Int), .slice none 0 0]) (hQ : Blk w q 145 #[.int .i64 (b0 : Int), .slice none 0 0, .int .i64 (b1 : Int), .slice none 0 0])
    (hbx : IRows w bv xss) (hok : okBox 2 2 wh xss) (hw : wh ≤ 100) (hask : w.cell? ⟨ab, 0, none⟩ = some (.int .i64 (y : Int))) (hask1 : w.cell? ⟨ab, 1, none⟩ = some (.int .i64 (z : Int))) :
    Calls Try.prog 127 #[.agg #[.int .i64 0, .slice (some ⟨b, 0, none⟩) 2 2], .agg #[.int .i64 2, .int .i64 2, .int .i64 wh, bv], .slice (some ⟨ab, 0, none⟩) 2 2] w fun e w' => ∃ u, e = .returned u ∧ Got w w' u (chain xss y z a0 a1 b0 b1) := by
  obtain ⟨p0, p1, p2, p3⟩ := four_cells' hB
  obtain ⟨oo, hoo, hcut⟩ := cut ab 0 2 2 (by decide) (Nat.le_refl _)
  obtain rfl := hoo (by decide)
  have hwh := hok.2.1
  have hy01 : y = 0 ∨ y = 1 := by omega
  rcases hy01 with rfl | rfl
  · exact ocs.step0 0 b 0 0 (some ⟨p, 0, none⟩) (some ⟨q, 0, none⟩) 2 2 2 2 wh bv xss ab 0 2 2 1 1 1 (pair xss z a0 a1) (pair xss z b0 b1) wh w p0 p1 p2 p3 hbx hok hask (by decide) hcut (by rw [len_pair]; decide) (by rw [len_pair]; decide) (fine_pair hok hz h0 h1) (fine_pair hok hz h2 h3) ⟨by omega, by omega⟩
      (fun W hW => two z hz p a0 a1 h0 h1 wh bv xss ab 1 W (hP.below hW) (hbx.below hW) hok (below_cell hW _ _ hask1)) (fun W hW => two z hz q b0 b1 h2 h3 wh bv xss ab 1 W (hQ.below hW) (hbx.below hW) hok (below_cell hW _ _ hask1))
  · exact ocs.step1 0 b 0 0 (some ⟨p, 0, none⟩) (some ⟨q, 0, none⟩) 2 2 2 2 wh bv xss ab 0 2 2 1 1 1 (pair xss z a0 a1) (pair xss z b0 b1) wh w p0 p1 p2 p3 hbx hok hask (by decide) hcut (by rw [len_pair]; decide) (by rw [len_pair]; decide) (fine_pair hok hz h0 h1) (fine_pair hok hz h2 h3) ⟨by omega, by omega⟩
      (fun W hW => two z hz p a0 a1 h0 h1 wh bv xss ab 1 W (hP.below hW) (hbx.below hW) hok (below_cell hW _ _ hask1)) (fun W hW => two z hz q b0 b1 h2 h3 wh bv xss ab 1 W (hQ.below hW) (hbx.below hW) hok (below_cell hW _ _ hask1))


/-- the number of the outcomes with which the bit is guessed -/
def rn (bit : Nat) (L : List Oc) : Int := (L.map fun p => if p.1 ^^^ p.2.1 = bit then p.2.2 else 0).sum
theorem rn_take {bit : Nat} {L : List Oc} {k : Nat} {p : Oc} (h : k < L.length) (hp : L[k] = p) : rn bit (L.take (k + 1)) = rn bit (L.take k) + (if p.1 ^^^ p.2.1 = bit then p.2.2 else 0) := by
  unfold rn
  rw [List.take_succ_eq_append_getElem h, List.map_append, List.sum_append, hp]
  simp only [List.map_cons, List.map_nil, List.sum_cons, List.sum_nil, Int.add_zero]
theorem rn_bd {bit : Nat} {L : List Oc} {B : Int} (hB : 0 ≤ B) (h : Fine B L) : ∀ k, k ≤ L.length → 0 ≤ rn bit (L.take k) ∧ rn bit (L.take k) ≤ k * B
  | 0, _ => by simp [rn]
  | k + 1, hk => by
    obtain ⟨h1, h2⟩ := rn_bd (bit := bit) hB h k (by omega)
    rw [rn_take (by omega) rfl]
    obtain ⟨_, _, h3, h4⟩ := h L[k] (List.getElem_mem (by omega))
    have e : ((k + 1 : Nat) : Int) * B = k * B + B := by push_cast; rw [Int.add_mul, Int.one_mul]
    rw [e]
    split <;> omega


set_option maxRecDepth 100000 in
set_option maxHeartbeats 4000000 in
theorem right (u : Value) (L : List Oc) (b bit : Nat) (cur : Array Value) (B : Int) (w : World) (h : Lies w b u L cur) (hb : bit ≤ 1) (hf : Fine B L) (hB : 0 ≤ B ∧ B ≤ 1000000000) (hl : L.length ≤ 64) :
    Calls Try.prog 128 #[u, .int .i64 (bit : Int)] w fun e w' => e = .returned (.int .i64 (rn bit L)) ∧ Below w.heap.size w w' := by
  obtain ⟨cap, rfl, hbl, ht⟩ := h
  have HBL := Lib.hid hbl
  have HT := Lib.hid ht
  have HF := Lib.hid hf
  have HBB := Lib.hid hB
  have HRB := Lib.hid (fun k hk => rn_bd (bit := bit) hB.1 hf k hk)
  have HBI := Lib.hid hb
  have hlz : (L.length : Int) ≤ 64 := by omega
  obtain ⟨bz, hbz⟩ : ∃ bz : Int, (bit : Int) = bz := ⟨_, rfl⟩
  have HBZ := Lib.hid hbz
  rw [hbz]
  clear hbl ht hf hB hb hbz
  go_enter Try.func128, Try.ntmps128
  go_wp2_with fail
  go_loopw [5, 7, 10] (fun s z7 q wr => ∃ (k : Nat) (z : Int), k ≤ L.length ∧ q = .int .i64 k ∧ s = .int .i64 z ∧ Hid (z = rn bit (L.take k)) ∧ (∃ z, z7 = z) ∧ Hid (Below w.heap.size w wr)) (fun _ _ q _ => L.length - (intOf q).toNat)
  case atStart => exact ⟨0, 0, Nat.zero_le _, rfl, rfl, Lib.hid (by simp [rn]), ⟨_, rfl⟩, Below.refl _ _⟩
  case round =>
    obtain ⟨k, z, hk, rfl, rfl, hz, ⟨z7, rfl⟩, hBW⟩ := hrel
    obtain ⟨wi, rfl⟩ : ∃ wi : World, wi = wr := ⟨_, rfl⟩
    by_cases hlt : k < L.length
    · have hkz : (k : Int) < (L.length : Int) := by omega
      obtain ⟨p, hp, hpm⟩ : ∃ p, L[k] = p ∧ p ∈ L := ⟨_, rfl, List.getElem_mem hlt⟩
      have hcl := cells_at (HBL.out.below hBW.out) HT.out hlt
      rw [hp] at hcl
      obtain ⟨fm, ft, fn1, fn2⟩ := HF.out p hpm
      have hst := rn_take (bit := bit) hlt hp
      have hbd := HRB.out k hk
      rw [← hz.out] at hbd hst
      have hkB : (k : Int) * B ≤ 64 * 1000000000 := Int.mul_le_mul (by omega) HBB.out.2 HBB.out.1 (by decide)
      obtain ⟨P0, hP0⟩ : ∃ P0 : Int, (p.1 : Int) = P0 := ⟨_, rfl⟩
      obtain ⟨P1, hP1⟩ : ∃ P1 : Int, (p.2.1 : Int) = P1 := ⟨_, rfl⟩
      obtain ⟨P2, hP2⟩ : ∃ P2 : Int, p.2.2 = P2 := ⟨_, rfl⟩
      obtain ⟨X, hX⟩ : ∃ X : Int, ((p.1 ^^^ p.2.1 : Nat) : Int) = X := ⟨_, rfl⟩
      have hx : bits .xor .i64 P0 P1 = X := by rw [← hP0, ← hP1, ← hX]; exact ocs.xor_nat fm ft
      rw [hP0, hP1, hP2] at hcl
      rw [hP2] at hst fn1 fn2
      obtain ⟨e0, e1, e2⟩ := hcl
      have hB9 := HBB.out.2
      have hz0 : 0 ≤ z := hbd.1
      have hz1 : z ≤ 64000000000 := by omega
      have hp9 : P2 ≤ 1000000000 := by omega
      have HLT := Lib.hid hlt
      have hiff : (p.1 ^^^ p.2.1 = bit) ↔ X = bz := by rw [← hX, ← HBZ.out]; omega
      have BA := Lib.hid (below_al hBW.out (.cells #[.int .i64 P0, .int .i64 P1, .int .i64 P2] 178))
      obtain ⟨W1, hW1⟩ : ∃ W1, wi.alloc (.cells #[.int .i64 P0, .int .i64 P1, .int .i64 P2] 178) = W1 := ⟨_, rfl⟩
      obtain ⟨o0, o1, o2⟩ := three_cells' (show Blk W1 wi.heap.size 178 #[.int .i64 P0, .int .i64 P1, .int .i64 P2] from hW1 ▸ Blk.new wi _ _)
      rw [hW1] at BA
      by_cases hq : X = bz
      · have dq : (X == bz) = true := by simp [hq]
        rw [if_pos (hiff.2 hq)] at hst
        have HST := Lib.hid hst
        clear hlt hp hpm hP0 hP1 hP2 hX fm ft hst hbd hkB hq hiff hB9
        go_wp2_with fail
        go_roundw
        case rel => exact ⟨k + 1, z + P2, by have := HLT.out; omega, by go_num, rfl, Lib.hid HST.out.symm, ⟨_, rfl⟩, BA⟩
        case measure => have := HLT.out; simp [intOf]; omega
      · have dq : (X == bz) = false := by simp [hq]
        rw [if_neg (fun h => hq (hiff.1 h)), Int.add_zero] at hst
        have HST := Lib.hid hst
        clear hlt hp hpm hP0 hP1 hP2 hX fm ft hst hbd hkB hq hiff hB9
        go_wp2_with fail
        go_roundw
        case rel => exact ⟨k + 1, z, by have := HLT.out; omega, by go_num, rfl, Lib.hid HST.out.symm, ⟨_, rfl⟩, BA⟩
        case measure => have := HLT.out; simp [intOf]; omega
    · have hkz : ¬ (k : Int) < (L.length : Int) := by omega
      obtain rfl : k = L.length := by omega
      have HZ : Hid (z = rn bit L) := Lib.hid (by rw [hz.out, List.take_length])
      go_wp2_with fail
      go_ret
      exact ⟨ret_int HZ.out, hBW.out⟩

end Go.Proofs.Ytnjaocgciokpaab.rlo
