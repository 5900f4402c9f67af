/- The cursor that the draws read: next, pick, one, of. -/
import Derived.Test.YtfcoodhilpbehaaBase
import Derived.Test.YtfcoodhilpbehaaChecked
import Derived.Test.YtfcoodhilpbehaaSta
import Derived.Deep.RegionHeld3
namespace Go.Proofs.Ytfcoodhilpbehaa.cur
open Go.RowKit Go.Deep Go.Proofs.Ytfcoodhilpbehaa.base
open Go.Proofs.Ytfcoodhilpbehaa.sta

/-- the bytes of a code, below a block -/
def Bytes (W : World) (p : Nat) (A : Option Addr) (n : Nat) : Prop := ∀ j, j < n → ∃ (b o x : Nat), A = some ⟨b, o, none⟩ ∧ x < 256 ∧ b < p ∧ W.cell? ⟨b, o + j, none⟩ = some (.int .u8 (x : Int))
/-- a cursor in a block of its own -/
def Cur (W : World) (p : Nat) (A : Option Addr) (n cp M : Nat) : Prop := ∃ (a : Nat) (sd : Int), a ≤ M ∧ Blk W p 37 #[.slice A n cp, .int .i64 (a : Int), .int .u64 sd]

theorem cur_set {W : World} {p : Nat} {c0 c1 c2 : Value} (h : Blk W p 37 #[c0, c1, c2]) (u v : Value) (q q' : Nat) : Blk ((((W.drewN q).setCell ⟨p, 1, none⟩ u).setCell ⟨p, 2, none⟩ v).drewN q') p 37 #[c0, u, v] := by
  have h0 : (W.drewN q).heap[p]? = some (.cells #[c0, c1, c2] 37 (0, 0)) := h
  have h1 := Joins.block_setCell (i := 1) h0 u
  have h2 := Joins.block_setCell (i := 2) h1 v
  exact h2
theorem cur_wrote (W : World) (p : Nat) (u v : Value) (q q' : Nat) : Wrote (fun a => a.block = p) W ((((W.drewN q).setCell ⟨p, 1, none⟩ u).setCell ⟨p, 2, none⟩ v).drewN q') := by
  have h0 : Wrote (fun a : Addr => a.block = p) W (W.drewN q) := ⟨rfl, rfl, rfl, rfl, fun _ _ => rfl, fun _ u h => ⟨u, h⟩, fun _ => rfl, fun _ _ => rfl⟩
  have h2 := (h0.setCell (p := ⟨p, 1, none⟩) rfl u).setCell (p := ⟨p, 2, none⟩) rfl v
  exact h2.trans ⟨rfl, rfl, rfl, rfl, fun _ _ => rfl, fun _ u h => ⟨u, h⟩, fun _ => rfl, fun _ _ => rfl⟩
theorem and255 (Z : Int) : ∃ x : Nat, x < 256 ∧ wrap64 (bits .and .u64 Z 255) = (x : Int) := by
  refine ⟨(BitVec.ofInt 64 Z &&& BitVec.ofInt 64 255).toNat, ?_, ?_⟩
  · rw [BitVec.toNat_and]
    have h1 : (BitVec.ofInt 64 255).toNat = 255 := by decide
    have := Nat.and_le_right (n := (BitVec.ofInt 64 Z).toNat) (m := (BitVec.ofInt 64 255).toNat)
    omega
  · have hlt : (BitVec.ofInt 64 Z &&& BitVec.ofInt 64 255).toNat < 256 := by
      rw [BitVec.toNat_and]
      have h1 : (BitVec.ofInt 64 255).toNat = 255 := by decide
      have := Nat.and_le_right (n := (BitVec.ofInt 64 Z).toNat) (m := (BitVec.ofInt 64 255).toNat)
      omega
    have e : bits .and .u64 Z 255 = (((BitVec.ofInt 64 Z &&& BitVec.ofInt 64 255).toNat : Nat) : Int) := by
      show IntKind.u64.wrap (((BitVec.ofInt 64 Z &&& BitVec.ofInt 64 255).toNat : Nat) : Int) = _
      generalize (BitVec.ofInt 64 Z &&& BitVec.ofInt 64 255).toNat = y at hlt
      exact IntWalk.u64_in _ (by omega)
    rw [e]
    generalize (BitVec.ofInt 64 Z &&& BitVec.ofInt 64 255).toNat = y at hlt
    unfold wrap64
    omega

set_option maxHeartbeats 2000000 in
theorem next_any (p : Nat) (A : Option Addr) (n cp M : Nat) (W : World) (h : Cur W p A n cp M) (hM : M ≤ 1000000) (hc : Bytes W p A n) :
    Calls Try.prog 22 #[.pointer (some ⟨p, 0, none⟩)] W fun e W' => ∃ x : Nat, x < 256 ∧ e = .returned (.int .i64 (x : Int)) ∧ Cur W' p A n cp (M + 1) ∧ Wrote (fun q => q.block = p) W W' := by
  obtain ⟨a, sd, ha, hk⟩ := h
  have HK := Lib.hid hk
  obtain ⟨c0, c1, c2, hl⟩ : W.cell? ⟨p, 0, none⟩ = some (.slice A n cp) ∧ W.cell? ⟨p, 1, none⟩ = some (.int .i64 (a : Int)) ∧ W.cell? ⟨p, 2, none⟩ = some (.int .u64 sd) ∧ p < W.heap.size := by
    have hl := hk.lt
    unfold Blk at hk
    exact ⟨by simp [World.cell?, hk], by simp [World.cell?, hk], by simp [World.cell?, hk], hl⟩
  have rf : ∀ k, W.frozen? ⟨p, k, none⟩ = false := fun k => Joins.unfrozen_of_block HK.out k
  have gw : IntKind.i64.wrap ((a : Int) + 1) = (a : Int) + 1 := IntWalk.i64_in _ (by omega)
  by_cases hlt : a < n
  · obtain ⟨b, o, x, rfl, hx, hb, hcx⟩ := hc a hlt
    have hlz : (a : Int) < (n : Int) := by omega
    have hle : (a : Int) + 1 ≤ (n : Int) := by omega
    have hne : b ≠ p := by omega
    have gx : IntKind.i64.wrap (x : Int) = (x : Int) := IntWalk.i64_in _ (by omega)
    clear hk
    go_enter Try.func22, Try.ntmps22
    go_wp2_with fail
    go_quiet (fail)
    go_wp2_with fail
    go_region_held3 (fun w' => w'.cell? ⟨p, 0, none⟩ = some (.slice (some ⟨b, o, none⟩) n cp) ∧ w'.cell? ⟨p, 1, none⟩ = some (.int .i64 (a : Int)) ∧ w'.cell? ⟨b, o + a, none⟩ = some (.int .u8 (x : Int)) ∧ True) ((exact ⟨c0, c1, hcx, trivial⟩)) (fail)
    all_goals
      go_wp2_with fail
      go_quiet (fail)
      go_wp2_with fail
      go_ret
      exact ⟨x, hx, rfl, ⟨a + 1, _, by omega, cur_set HK.out _ _ _ _⟩, cur_wrote W p _ _ _ _⟩
  · have hlz : ¬ (a : Int) < (n : Int) := by omega
    have hle : ¬ (a : Int) + 1 ≤ (n : Int) := by omega
    clear hk
    go_enter Try.func22, Try.ntmps22
    go_wp2_with fail
    go_quiet (fail)
    go_wp2_with fail
    go_quiet (fail)
    go_wp2_with fail
    obtain ⟨x, hx, ex⟩ := and255 (IntKind.u64.wrap (IntKind.u64.wrap (IntKind.u64.wrap (sd * 6364136223846793005)) + 462197) / 1099511627776)
    rw [ex]
    go_ret
    exact ⟨x, hx, rfl, ⟨a + 1, _, by omega, cur_set HK.out _ _ _ _⟩, cur_wrote W p _ _ _ _⟩


theorem Bytes.wrote {W W' : World} {p : Nat} {A : Option Addr} {n : Nat} (h : Bytes W p A n) (hw : Wrote (fun q => q.block = p) W W') : Bytes W' p A n := by
  intro j hj
  obtain ⟨b, o, x, hA, hx, hb, hc⟩ := h j hj
  exact ⟨b, o, x, hA, hx, hb, (hw.cell _ (fun (e : b = p) => by omega)).trans hc⟩
/-- the cursor is at hand, with room for so many steps -/
structure Hand (W : World) (p : Nat) (A : Option Addr) (n cp M : Nat) : Prop where
  cur : Cur W p A n cp M
  bytes : Bytes W p A n
theorem Hand.low {W W' : World} {p : Nat} {A : Option Addr} {n cp M : Nat} (h : Hand W p A n cp M) (hb : Below W.heap.size W W') : Hand W' p A n cp M := by
  obtain ⟨a, sd, ha, hk⟩ := h.cur
  refine ⟨⟨a, sd, ha, hk.below hb⟩, fun j hj => ?_⟩
  obtain ⟨b, o, x, hA, hx, hbp, hc⟩ := h.bytes j hj
  exact ⟨b, o, x, hA, hx, hbp, below_cell hb _ _ hc⟩
theorem Hand.lt {W : World} {p : Nat} {A : Option Addr} {n cp M : Nat} (h : Hand W p A n cp M) : p < W.heap.size := by
  obtain ⟨a, sd, ha, hk⟩ := h.cur
  exact hk.lt
/-- what a use of the cursor leaves alone -/
def Kept (p : Nat) (W W' : World) : Prop := Below p W W' ∧ ∀ k, k ≠ p → k < W.heap.size → W'.heap[k]? = W.heap[k]?
theorem Kept.of_wrote {p : Nat} {W W' : World} (h : Wrote (fun q => q.block = p) W W') : Kept p W W' :=
  ⟨h.below (fun q (hq : q.block = p) => by omega), fun k hk _ => h.block k (fun q (hq : q.block = p) e => by omega)⟩
theorem Kept.refl (p : Nat) (W : World) : Kept p W W := ⟨Below.refl _ _, fun _ _ _ => rfl⟩
theorem Kept.trans {p : Nat} {A B C : World} (h : Kept p A B) (k : Kept p B C) : Kept p A C :=
  ⟨h.1.trans k.1, fun j hj hl => (k.2 j hj (Nat.lt_of_lt_of_le hl h.1.size)).trans (h.2 j hj hl)⟩
theorem Kept.of_below {p : Nat} {A B : World} (hp : p ≤ A.heap.size) (h : Below A.heap.size A B) : Kept p A B := ⟨h.mono hp, fun j _ hl => h.block j hl⟩
theorem Kept.cell {p : Nat} {A B : World} (h : Kept p A B) {a : Addr} {u : Value} (ha : a.block ≠ p) (hu : A.cell? a = some u) : B.cell? a = some u := by
  have hl := World.block_lt_of_cell? _ _ hu
  have := h.2 a.block ha hl
  simp only [World.cell?, this]
  exact hu


set_option maxHeartbeats 1000000 in
theorem pick_any (p : Nat) (A : Option Addr) (n cp M : Nat) (z : Nat) (W : World) (h : Hand W p A n cp M) (hM : M ≤ 900000) (hz : 1 ≤ z ∧ z ≤ 65536) :
    Calls Try.prog 16 #[.pointer (some ⟨p, 0, none⟩), .int .i64 (z : Int)] W fun e W' => ∃ x : Nat, x < z ∧ e = .returned (.int .i64 (x : Int)) ∧ Hand W' p A n cp (M + 2) ∧ Kept p W W' := by
  have up : ∀ {W' : World} {a b : Nat}, a ≤ b → Hand W' p A n cp a → Hand W' p A n cp b := fun hab hh => by
    obtain ⟨a, sd, ha, hk⟩ := hh.cur
    exact ⟨⟨a, sd, by omega, hk⟩, hh.bytes⟩
  by_cases h1 : z ≤ 1
  · have hg : (z : Int) ≤ 1 := by omega
    go_enter Try.func16, Try.ntmps16
    go_wp2_with fail
    go_ret
    exact ⟨0, by omega, rfl, up (by omega) h, Kept.refl _ _⟩
  have hg : ¬ (z : Int) ≤ 1 := by omega
  have hz0 : ¬ (z : Int) = 0 := by omega
  have HN := Lib.hid (next_any p A n cp M W h.cur (by omega) h.bytes)
  by_cases h2 : 200 < z
  · have hg2 : (z : Int) > 200 := by omega
    go_enter Try.func16, Try.ntmps16
    go_wp2_with fail
    refine HN.out.mono ?_
    rintro e W1 ⟨x, hx, rfl, hc1, hw1⟩
    have H1 : Hid (Hand W1 p A n cp (M + 1)) := Lib.hid ⟨hc1, h.bytes.wrote hw1⟩
    have K1 := Lib.hid (Kept.of_wrote hw1)
    have HN2 := Lib.hid (next_any p A n cp (M + 1) W1 H1.out.cur (by omega) H1.out.bytes)
    have gx : IntKind.i64.wrap ((x : Int) * 256) = (x : Int) * 256 := IntWalk.i64_in _ (by omega)
    clear hc1 hw1
    go_wp2_with fail
    refine HN2.out.mono ?_
    rintro e W2 ⟨y, hy, rfl, hc2, hw2⟩
    have H2 : Hid (Hand W2 p A n cp (M + 2)) := Lib.hid ⟨hc2, H1.out.bytes.wrote hw2⟩
    have K2 := Lib.hid (K1.out.trans (Kept.of_wrote hw2))
    have gy : IntKind.i64.wrap ((x : Int) * 256 + y) = (x : Int) * 256 + y := IntWalk.i64_in _ (by omega)
    have gt : ((x : Int) * 256 + y).tmod z = (((x * 256 + y) % z : Nat) : Int) := by
      rw [Int.tmod_eq_emod_of_nonneg (by omega)]
      simp
    clear hc2 hw2
    go_wp2_with fail
    go_ret
    exact ⟨(x * 256 + y) % z, Nat.mod_lt _ (by omega), by simp, H2.out, K2.out⟩
  · have hg2 : ¬ (z : Int) > 200 := by omega
    go_enter Try.func16, Try.ntmps16
    go_wp2_with fail
    refine HN.out.mono ?_
    rintro e W1 ⟨x, hx, rfl, hc1, hw1⟩
    have H1 : Hid (Hand W1 p A n cp (M + 1)) := Lib.hid ⟨hc1, h.bytes.wrote hw1⟩
    have K1 := Lib.hid (Kept.of_wrote hw1)
    have gt : ((x : Int)).tmod z = ((x % z : Nat) : Int) := by
      rw [Int.tmod_eq_emod_of_nonneg (by omega)]
      simp
    clear hc1 hw1
    go_wp2_with fail
    go_ret
    exact ⟨x % z, Nat.mod_lt _ (by omega), by simp, up (by omega) H1.out, K1.out⟩



theorem one_any (p : Nat) (A : Option Addr) (n cp M : Nat) (z : Nat) (W : World) (h : Hand W p A n cp M) (hM : M ≤ 900000) (hz : 1 ≤ z ∧ z ≤ 65536) :
    Calls Try.prog 17 #[.pointer (some ⟨p, 0, none⟩), .int .i64 (z : Int)] W fun e W' => ∃ r : Bool, e = .returned (.bool r) ∧ Hand W' p A n cp (M + 2) ∧ Kept p W W' := by
  have HP := Lib.hid (pick_any p A n cp M z W h hM hz)
  clear h
  go_enter Try.func17, Try.ntmps17
  go_wp2_with fail
  refine HP.out.mono ?_
  rintro e W1 ⟨x, hx, rfl, hh, hk⟩
  have H1 := Lib.hid hh
  have K1 := Lib.hid hk
  clear hh hk
  go_wp2_with fail
  go_ret
  exact ⟨_, rfl, H1.out, K1.out⟩



set_option maxHeartbeats 1000000 in
theorem of_any (p : Nat) (A : Option Addr) (n cp M : Nat) (b o c : Nat) (ss : List ByteArray) (W : World) (h : Hand W p A n cp M) (hM : M ≤ 900000) (hs : 1 ≤ ss.length ∧ ss.length ≤ 1000) (hb : b ≠ p)
    (hc : ∀ j (hj : j < ss.length), W.cell? ⟨b, o + j, none⟩ = some (.string ss[j])) :
    Calls Try.prog 14 #[.pointer (some ⟨p, 0, none⟩), .slice (some ⟨b, o, none⟩) ss.length c] W fun e W' => ∃ (j : Nat) (hj : j < ss.length), e = .returned (.string ss[j]) ∧ Hand W' p A n cp (M + 2) ∧ Kept p W W' := by
  have HP := Lib.hid (pick_any p A n cp M ss.length W h hM (by omega))
  have HC := Lib.hid hc
  clear h hc
  go_enter Try.func14, Try.ntmps14
  go_wp2_with fail
  refine HP.out.mono ?_
  rintro e W1 ⟨x, hx, rfl, hh, hk⟩
  have H1 := Lib.hid hh
  have K1 := Lib.hid hk
  have g0 := hk.cell (a := ⟨b, o + x, none⟩) hb (HC.out x hx)
  have hxz : (x : Int) < (ss.length : Int) := by omega
  clear hh hk
  go_wp2_with fail
  go_ret
  exact ⟨x, hx, rfl, H1.out, K1.out⟩



theorem of_lit (p : Nat) (A : Option Addr) (n cp M : Nat) (ss : List ByteArray) (W : World) (h : Hand W p A n cp M) (hM : M ≤ 900000) (hs : 1 ≤ ss.length ∧ ss.length ≤ 1000) :
    Calls Try.prog 14 #[.pointer (some ⟨p, 0, none⟩), .slice (some ⟨W.heap.size, 0, none⟩) ss.length ss.length] (W.alloc (.cells (ss.map Value.string).toArray 9)) fun e W' => ∃ s ∈ ss, e = .returned (.string s) ∧ Hand W' p A n cp (M + 2) ∧ Kept p W W' := by
  have hp := h.lt
  have hbl := Blk.new W 9 (ss.map Value.string).toArray
  have hal := below_al (Below.refl _ W) (.cells (ss.map Value.string).toArray 9)
  refine (of_any p A n cp M W.heap.size 0 ss.length ss _ (h.low hal) hM hs (by omega) (fun j hj => ?_)).mono ?_
  · unfold Blk at hbl
    simp only [World.cell?, hbl, Nat.zero_add]
    simp [hj]
  · rintro e W' ⟨j, hj, rfl, hh, hk⟩
    exact ⟨ss[j], List.getElem_mem hj, rfl, hh, (Kept.of_below (by omega) hal).trans hk⟩



def texts : List ByteArray := [⟨#[]⟩, ⟨#[97]⟩, ⟨#[97, 44, 98]⟩, ⟨#[115, 111, 109, 101, 32, 119, 111, 114, 100, 115]⟩, ⟨#[120, 35, 121]⟩, ⟨#[45, 49, 50]⟩, ⟨#[0, 255]⟩, ⟨#[44, 44]⟩, ⟨#[48]⟩]
theorem texts_size : ∀ s ∈ texts, s.size ≤ 16 := by decide
set_option maxHeartbeats 1000000 in
theorem any1_any (p : Nat) (A : Option Addr) (n cp M : Nat) (W : World) (h : Hand W p A n cp M) (hM : M ≤ 900000) :
    Calls Try.prog 13 #[.pointer (some ⟨p, 0, none⟩)] W fun e W' => ∃ s : ByteArray, s.size ≤ 16 ∧ e = .returned (.string s) ∧ Hand W' p A n cp (M + 2) ∧ Kept p W W' := by
  have HO := Lib.hid (of_lit p A n cp M texts W h hM (by decide))
  clear h
  go_enter Try.func13, Try.ntmps13
  go_wp2_with fail
  refine HO.out.mono ?_
  rintro e W1 ⟨s, hs, rfl, hh, hk⟩
  have H1 := Lib.hid hh
  have K1 := Lib.hid hk
  have S1 := Lib.hid (texts_size s hs)
  clear hh hk hs
  go_wp2_with fail
  go_ret
  exact ⟨s, S1.out, rfl, H1.out, K1.out⟩


end Go.Proofs.Ytfcoodhilpbehaa.cur
