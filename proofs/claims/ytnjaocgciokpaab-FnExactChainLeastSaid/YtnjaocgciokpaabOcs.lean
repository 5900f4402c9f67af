/- A relay's outcomes out of those of its two parts: outcomes of the program, for the bit 0 and for the bit 1. -/
import Derived.Test.YtnjaocgciokpaabOco
import Derived.Test.YtnjaocgciokpaabRow
import Derived.Deep.RegionWith
import Derived.Deep.RegionHeld3
import Derived.BigQuiet
import Derived.BigRegion
namespace Go.Proofs.Ytnjaocgciokpaab.ocs
open Go.RowKit Go.Deep Go.Proofs.Ytnjaocgciokpaab.base
open Go.Proofs.Ytnjaocgciokpaab.ints (ret_int infoInt)
open Go.Proofs.Ytnjaocgciokpaab.val (okBox)
open Go.Proofs.Ytnjaocgciokpaab.row (nn at_)
open Go.Proofs.Ytnjaocgciokpaab.oco

theorem infoOc : (Try.prog.info? 178).map (fun i => (i.zero, i.size, i.bytes)) = some (some (.agg #[.int .i64 0, .int .i64 0, .int .i64 0]), 3, 24) := by kernel_rfl
theorem ic0 (n0 n1 n2 n3 : Int) (W : World) : (Instr.index 181 (.agg #[.int .i64 n0, .int .i64 n1, .int .i64 n2, .int .i64 n3]) (.int .i64 0)).run Try.prog W = .ok (.int .i64 n0) W := by kernel_rfl
theorem ic1 (n0 n1 n2 n3 : Int) (W : World) : (Instr.index 181 (.agg #[.int .i64 n0, .int .i64 n1, .int .i64 n2, .int .i64 n3]) (.int .i64 1)).run Try.prog W = .ok (.int .i64 n1) W := by kernel_rfl
theorem ic2 (n0 n1 n2 n3 : Int) (W : World) : (Instr.index 181 (.agg #[.int .i64 n0, .int .i64 n1, .int .i64 n2, .int .i64 n3]) (.int .i64 2)).run Try.prog W = .ok (.int .i64 n2) W := by kernel_rfl
theorem ic3 (n0 n1 n2 n3 : Int) (W : World) : (Instr.index 181 (.agg #[.int .i64 n0, .int .i64 n1, .int .i64 n2, .int .i64 n3]) (.int .i64 3)).run Try.prog W = .ok (.int .i64 n3) W := by kernel_rfl
theorem io0 (a b c d e f : Int) (W : World) : (Instr.index 179 (.agg #[.int .i64 a, .int .i64 b, .int .i64 c, .int .i64 d, .int .i64 e, .int .i64 f]) (.int .i64 0)).run Try.prog W = .ok (.agg #[.int .i64 a, .int .i64 b, .int .i64 c]) W := by kernel_rfl
theorem io1 (a b c d e f : Int) (W : World) : (Instr.index 179 (.agg #[.int .i64 a, .int .i64 b, .int .i64 c, .int .i64 d, .int .i64 e, .int .i64 f]) (.int .i64 1)).run Try.prog W = .ok (.agg #[.int .i64 d, .int .i64 e, .int .i64 f]) W := by kernel_rfl
theorem xor_nat {a b : Nat} (h : a ≤ 1) (h' : b ≤ 1) : bits .xor .i64 (a : Int) (b : Int) = ((a ^^^ b : Nat) : Int) := by
  have h1 : a = 0 ∨ a = 1 := by omega
  have h2 : b = 0 ∨ b = 1 := by omega
  rcases h1 with rfl | rfl <;> rcases h2 with rfl | rfl <;> decide
theorem four_cells' {w : World} {b : Nat} {t : TypeId} {x y z u : Value} (h : Blk w b t #[x, y, z, u]) : w.cell? ⟨b, 0, none⟩ = some x ∧ w.cell? ⟨b, 1, none⟩ = some y ∧ w.cell? ⟨b, 2, none⟩ = some z ∧ w.cell? ⟨b, 3, none⟩ = some u := by
  unfold Blk at h
  refine ⟨?_, ?_, ?_, ?_⟩ <;> simp only [World.cell?, h] <;> rfl
theorem two_cells' {w : World} {b : Nat} {t : TypeId} {x y : Value} (h : Blk w b t #[x, y]) : w.cell? ⟨b, 0, none⟩ = some x ∧ w.cell? ⟨b, 1, none⟩ = some y := by
  unfold Blk at h
  refine ⟨?_, ?_⟩ <;> simp only [World.cell?, h] <;> rfl
theorem three_cells' {w : World} {b : Nat} {t : TypeId} {x y z : Value} (h : Blk w b t #[x, y, z]) : w.cell? ⟨b, 0, none⟩ = some x ∧ w.cell? ⟨b, 1, none⟩ = some y ∧ w.cell? ⟨b, 2, none⟩ = some z := by
  unfold Blk at h
  refine ⟨?_, ?_, ?_⟩ <;> simp only [World.cell?, h] <;> rfl
theorem held7 {w w' : World} {p1 p2 p3 p4 p5 p6 p7 : Addr} {u1 u2 u3 u4 u5 u6 u7 : Value} (h1 : w.cell? p1 = some u1) (h2 : w.cell? p2 = some u2) (h3 : w.cell? p3 = some u3) (h4 : w.cell? p4 = some u4) (h5 : w.cell? p5 = some u5) (h6 : w.cell? p6 = some u6) (h7 : w.cell? p7 = some u7) (hb : Below w.heap.size w w') :
    w'.cell? p1 = some u1 ∧ w'.cell? p2 = some u2 ∧ w'.cell? p3 = some u3 ∧ w'.cell? p4 = some u4 ∧ w'.cell? p5 = some u5 ∧ w'.cell? p6 = some u6 ∧ w'.cell? p7 = some u7 ∧ Below w.heap.size w w' :=
  ⟨below_cell hb _ _ h1, below_cell hb _ _ h2, below_cell hb _ _ h3, below_cell hb _ _ h4, below_cell hb _ _ h5, below_cell hb _ _ h6, below_cell hb _ _ h7, hb⟩
/-- the rows of a Box of two questions each, for the question y of the second player -/
def R (xss : List (List Int)) (y : Int) (x a : Nat) : Int := nn xss (at_ 2 (x : Int) y) a

set_option maxRecDepth 100000 in
set_option maxHeartbeats 8000000 in
theorem step0 (z : Int) (pb : Nat) (n0 n1 : Int) (A0 A1 : Option Addr) (l0 c0 l1 c1 : Nat) (wh : Int) (bv : Value) (xss : List (List Int)) (ab ao an ac oo on occ : Nat) (L1 L2 : List Oc) (B : Int) (w : World)
    (hp0 : w.cell? ⟨pb, 0, none⟩ = some (.int .i64 n0)) (hp1 : w.cell? ⟨pb, 1, none⟩ = some (.slice A0 l0 c0)) (hp2 : w.cell? ⟨pb, 2, none⟩ = some (.int .i64 n1)) (hp3 : w.cell? ⟨pb, 3, none⟩ = some (.slice A1 l1 c1))
    (hbx : IRows w bv xss) (hok : okBox 2 2 wh xss) (hask : w.cell? ⟨ab, ao, none⟩ = some (.int .i64 0)) (han : 1 ≤ an)
    (hcut : ∀ W, (Instr.slice 44 (.slice (some ⟨ab, ao, none⟩) an ac) (some (.int .i64 1)) none none).run Try.prog W = .ok (.slice (some ⟨ab, oo, none⟩) on occ) W)
    (hl1 : 1 ≤ L1.length ∧ L1.length ≤ 4) (hl2 : 1 ≤ L2.length ∧ L2.length ≤ 4) (hf1 : Fine B L1) (hf2 : Fine B L2) (hB : 0 ≤ B ∧ B ≤ 1000)
    (H0 : ∀ W, Below w.heap.size w W → Calls Try.prog 127 #[.agg #[.int .i64 n0, .slice A0 l0 c0], .agg #[.int .i64 2, .int .i64 2, .int .i64 wh, bv], .slice (some ⟨ab, oo, none⟩) on occ] W fun e w' => ∃ u, e = .returned u ∧ Got W w' u L1)
    (H1 : ∀ W, Below w.heap.size w W → Calls Try.prog 127 #[.agg #[.int .i64 n1, .slice A1 l1 c1], .agg #[.int .i64 2, .int .i64 2, .int .i64 wh, bv], .slice (some ⟨ab, oo, none⟩) on occ] W fun e w' => ∃ u, e = .returned u ∧ Got W w' u L2) :
    Calls Try.prog 127 #[.agg #[.int .i64 z, .slice (some ⟨pb, 0, none⟩) 2 2], .agg #[.int .i64 2, .int .i64 2, .int .i64 wh, bv], .slice (some ⟨ab, ao, none⟩) an ac] w fun e w' => ∃ u, e = .returned u ∧ Got w w' u (comb 0 (R xss 0) L1 L2) := by
  obtain ⟨i0, hi, hz0, hz1, hz2⟩ := info_parts infoOc
  have HBX := Lib.hid hbx
  have HOK := Lib.hid hok
  obtain ⟨va, vn, vc, rfl⟩ := hbx.shape
  have HH0 := Lib.hid H0
  have HH1 := Lib.hid H1
  have HP := Lib.hid (fun (W : World) (h : Below w.heap.size w W) => And.intro (below_cell h _ _ hp0) (And.intro (below_cell h _ _ hp1) (And.intro (below_cell h _ _ hp2) (below_cell h _ _ hp3))))
  have HASK := Lib.hid (fun (W : World) (h : Below w.heap.size w W) => below_cell h _ _ hask)
  have HF1 := Lib.hid hf1
  have HF2 := Lib.hid hf2
  have HBB := Lib.hid hB
  have HL1 := Lib.hid hl1
  have HL2 := Lib.hid hl2
  have hl1z : (L1.length : Int) ≤ 4 := by omega
  have hl2z : (L2.length : Int) ≤ 4 := by omega
  have hanz : (0 : Int) < (an : Int) := by omega
  have hann : 0 < an := by omega
  obtain ⟨w1, hw1⟩ : ∃ w1, (w.alloc (.cells #[.int .i64 z, .slice (some ⟨pb, 0, none⟩) 2 2] 145)).alloc (.cells #[.int .i64 2, .int .i64 2, .int .i64 wh, .slice va vn vc] 28) = w1 := ⟨_, rfl⟩
  have B1 : Below w.heap.size w w1 := hw1 ▸ below_al (below_al (Below.refl _ _) _) _
  have RL : Blk w1 w.heap.size 145 #[.int .i64 z, .slice (some ⟨pb, 0, none⟩) 2 2] := hw1 ▸ (Blk.new w _ _).alloc _
  have BL : Blk w1 (w.heap.size + 1) 28 #[.int .i64 2, .int .i64 2, .int .i64 wh, .slice va vn vc] := hw1 ▸ (by
    have := Blk.new (w.alloc (.cells #[.int .i64 z, .slice (some ⟨pb, 0, none⟩) 2 2] 145)) 28 #[.int .i64 2, .int .i64 2, .int .i64 wh, .slice va vn vc]
    simpa using this)
  have I0 : Hid (Inv w w1 (.slice none 0 0) (comb 0 (R xss 0) (L1.take 0) L2) [(w.heap.size, 145, #[.int .i64 z, .slice (some ⟨pb, 0, none⟩) 2 2]), (w.heap.size + 1, 28, #[.int .i64 2, .int .i64 2, .int .i64 wh, .slice va vn vc])]) := Lib.hid (by
    refine ⟨B1, World.ownsRow_nil _ _ _ _, fun x hx => ?_⟩
    rcases List.mem_cons.1 hx with rfl | hx
    · exact ⟨RL, by simp [Value.ownBlock]⟩
    · rcases List.mem_cons.1 hx with rfl | hx
      · exact ⟨BL, by simp [Value.ownBlock]⟩
      · cases hx)
  clear hbx hok hp0 hp1 hp2 hp3 hask hf1 hf2 hB hl1 hl2 han H0 H1
  obtain ⟨k0, k1⟩ := two_cells' RL
  obtain ⟨b0, b1, b2, b3⟩ := four_cells' BL
  have q0 := HASK.out w1 B1
  obtain ⟨p0, p1, p2, p3⟩ := HP.out w1 B1
  clear RL BL B1
  go_enter Try.func127, Try.ntmps127
  go_wp2_with fail
  go_quiet (fail)
  go_wp2_with fail
  have I1 := Lib.hid (I0.out.keep (below_drewN (Below.refl w1.heap.size w1) nq))
  have HK : (w1.drewN nq).cell? ⟨w.heap.size, 1, none⟩ = some (.slice (some ⟨pb, 0, none⟩) 2 2) ∧ (w1.drewN nq).cell? ⟨pb, 0, none⟩ = some (.int .i64 n0) ∧ (w1.drewN nq).cell? ⟨pb, 1, none⟩ = some (.slice A0 l0 c0) ∧ (w1.drewN nq).cell? ⟨w.heap.size + 1, 0, none⟩ = some (.int .i64 2) ∧ (w1.drewN nq).cell? ⟨w.heap.size + 1, 1, none⟩ = some (.int .i64 2) ∧ (w1.drewN nq).cell? ⟨w.heap.size + 1, 2, none⟩ = some (.int .i64 wh) ∧ (w1.drewN nq).cell? ⟨w.heap.size + 1, 3, none⟩ = some (.slice va vn vc) := ⟨k1, p0, p1, b0, b1, b2, b3⟩
  clear k0 k1 p0 p1 p2 p3 b0 b1 b2 b3 q0 I0
  generalize w1.drewN nq = wq at I1 HK ⊢
  obtain ⟨k1, p0, p1, b0, b1, b2, b3⟩ := HK
  clear hw1
  go_region_held3 (fun w' => w'.cell? ⟨w.heap.size, 1, none⟩ = some (.slice (some ⟨pb, 0, none⟩) 2 2) ∧ w'.cell? ⟨pb, 0, none⟩ = some (.int .i64 n0) ∧ w'.cell? ⟨pb, 1, none⟩ = some (.slice A0 l0 c0) ∧ w'.cell? ⟨w.heap.size + 1, 0, none⟩ = some (.int .i64 2) ∧ w'.cell? ⟨w.heap.size + 1, 1, none⟩ = some (.int .i64 2) ∧ w'.cell? ⟨w.heap.size + 1, 2, none⟩ = some (.int .i64 wh) ∧ w'.cell? ⟨w.heap.size + 1, 3, none⟩ = some (.slice va vn vc) ∧ Below wq.heap.size wq w')
    ((refine held7 k1 p0 p1 b0 b1 b2 b3 ?_; repeat (first | exact Below.refl _ _ | assumption | refine below_dr ?_ | refine below_tr ?_ (by assumption))))
    (first | (go_at_call 127; (with_reducible refine (HH0.out _ ?_).mono ?_); (first | exact I1.out.below | exact below_dr I1.out.below); rintro e w2 ⟨u1, rfl, g1, cur1, ⟨cap1, rfl, hbl1, ht1⟩, hbg1, hb⟩))
  have hb2 : Below wq.heap.size wq w2 := by first | exact hb | exact below_tr (below_dr (Below.refl _ _)) hb
  have I2 := Lib.hid (I1.out.add hb2 (x := (g1, 178, cur1)) hbl1 hbg1)
  have HT1 := Lib.hid ht1
  clear hb hb2 hbl1 hbg1 ht1 k1 p0 p1 b0 b1 b2 b3 I1
  go_wp2_with fail
  go_loopw [7, 11, 13, 14, 15, 16, 17, 39] (fun v z11 z13 z14 z15 z16 z17 q wr => ∃ k : Nat, k ≤ L1.length ∧ q = .int .i64 k ∧ (∃ z, z11 = z) ∧ (∃ z, z13 = z) ∧ (∃ z, z14 = z) ∧ (∃ z, z15 = z) ∧ (∃ z, z16 = z) ∧ (∃ z, z17 = z) ∧ Hid (Inv w wr v (comb 0 (R xss 0) (L1.take k) L2) [(g1, 178, cur1), (w.heap.size, 145, #[.int .i64 z, .slice (some ⟨pb, 0, none⟩) 2 2]), (w.heap.size + 1, 28, #[.int .i64 2, .int .i64 2, .int .i64 wh, .slice va vn vc])])) (fun _ _ _ _ _ _ _ q _ => L1.length - (intOf q).toNat)
  case atStart => exact ⟨0, Nat.zero_le _, rfl, ⟨_, rfl⟩, ⟨_, rfl⟩, ⟨_, rfl⟩, ⟨_, rfl⟩, ⟨_, rfl⟩, ⟨_, rfl⟩, I2⟩
  case round =>
    clear I2
    obtain ⟨k, hk, rfl, ⟨z11, rfl⟩, ⟨z13, rfl⟩, ⟨z14, rfl⟩, ⟨z15, rfl⟩, ⟨z16, rfl⟩, ⟨z17, rfl⟩, hI⟩ := hrel
    obtain ⟨wi, rfl⟩ : ∃ wi : World, wi = wr := ⟨_, rfl⟩
    obtain ⟨va7, vl7, vc7, rfl⟩ := boxl.shapez hI.out.owns
    by_cases hlt : k < L1.length
    · have hkz : (k : Int) < (L1.length : Int) := by omega
      obtain ⟨p, hp, hpm⟩ : ∃ p, L1[k] = p ∧ p ∈ L1 := ⟨_, rfl, List.getElem_mem hlt⟩
      have HTC := Lib.hid (take_comb (y := 0) (R := R xss 0) (L2 := L2) hlt)
      rw [hp] at HTC
      have hcl := cells_at (hI.out.kept _ (List.mem_cons_self ..)).1 HT1.out hlt
      rw [hp] at hcl
      obtain ⟨fm, ft, fn1, fn2⟩ := HF1.out p hpm
      obtain ⟨P0, hP0⟩ : ∃ P0 : Int, (p.1 : Int) = P0 := ⟨_, rfl⟩
      obtain ⟨P1, hP1⟩ : ∃ P1 : Int, (p.2.1 : Int) = P1 := ⟨_, rfl⟩
      obtain ⟨P2, hP2⟩ : ∃ P2 : Int, p.2.2 = P2 := ⟨_, rfl⟩
      rw [hP0, hP1, hP2] at hcl
      obtain ⟨e0, e1, e2⟩ := hcl
      have HLT := Lib.hid hlt
      have HPM := Lib.hid hpm
      have HP0 := Lib.hid hP0
      have HP1 := Lib.hid hP1
      have HP2 := Lib.hid hP2
      clear hlt hp hpm hP0 hP1 hP2 fm ft fn1 fn2
      have I3 := Lib.hid (hI.out.add (below_al (Below.refl wi.heap.size wi) (.cells #[.int .i64 P0, .int .i64 P1, .int .i64 P2] 178)) (x := (wi.heap.size, 178, #[.int .i64 P0, .int .i64 P1, .int .i64 P2])) (Blk.new wi _ _) (Nat.le_refl _))
      go_wp2_with fail
      obtain ⟨W1, hW1⟩ : ∃ W1, wi.alloc (.cells #[.int .i64 P0, .int .i64 P1, .int .i64 P2] 178) = W1 := ⟨_, rfl⟩
      rw [hW1] at I3 ⊢
      obtain ⟨O1, hO1⟩ : ∃ O1, wi.heap.size = O1 := ⟨_, rfl⟩
      rw [hO1] at I3 ⊢
      have k1 := (two_cells' (I3.out.kept (w.heap.size, 145, #[.int .i64 z, .slice (some ⟨pb, 0, none⟩) 2 2]) (by simp)).1).2
      obtain ⟨b0, b1, b2, b3⟩ := four_cells' (I3.out.kept (w.heap.size + 1, 28, #[.int .i64 2, .int .i64 2, .int .i64 wh, .slice va vn vc]) (by simp)).1
      obtain ⟨_, _, p2, p3⟩ := HP.out W1 I3.out.below
      clear hW1 hO1 hI e0 e1 e2
      go_region_held3 (fun w' => w'.cell? ⟨w.heap.size, 1, none⟩ = some (.slice (some ⟨pb, 0, none⟩) 2 2) ∧ w'.cell? ⟨pb, 2, none⟩ = some (.int .i64 n1) ∧ w'.cell? ⟨pb, 3, none⟩ = some (.slice A1 l1 c1) ∧ w'.cell? ⟨w.heap.size + 1, 0, none⟩ = some (.int .i64 2) ∧ w'.cell? ⟨w.heap.size + 1, 1, none⟩ = some (.int .i64 2) ∧ w'.cell? ⟨w.heap.size + 1, 2, none⟩ = some (.int .i64 wh) ∧ w'.cell? ⟨w.heap.size + 1, 3, none⟩ = some (.slice va vn vc) ∧ Below W1.heap.size W1 w')
        ((refine held7 k1 p2 p3 b0 b1 b2 b3 ?_; repeat (first | exact Below.refl _ _ | assumption | refine below_dr ?_ | refine below_tr ?_ (by assumption))))
        (first | (go_at_call 127; (with_reducible refine (HH1.out _ ?_).mono ?_); (first | exact I3.out.below | exact below_dr I3.out.below); rintro e w3 ⟨u2, rfl, g2, cur2, ⟨cap2, rfl, hbl2, ht2⟩, hbg2, hb⟩))
      have hb2 : Below W1.heap.size W1 w3 := by first | exact hb | exact below_tr (below_dr (Below.refl _ _)) hb
      have I4 := Lib.hid (I3.out.add hb2 (x := (g2, 178, cur2)) hbl2 hbg2)
      have HT2 := Lib.hid ht2
      clear hb hb2 hbl2 hbg2 ht2 k1 p2 p3 b0 b1 b2 b3 I3
      go_wp2_with fail
      have I5 : Hid (Inv w w3 (.slice va7 vl7 vc7) (comb 0 (R xss 0) (L1.take k) L2 ++ row 0 (R xss 0) p (L2.take 0)) [(g2, 178, cur2), (O1, 178, #[.int .i64 P0, .int .i64 P1, .int .i64 P2]), (g1, 178, cur1), (w.heap.size, 145, #[.int .i64 z, .slice (some ⟨pb, 0, none⟩) 2 2]), (w.heap.size + 1, 28, #[.int .i64 2, .int .i64 2, .int .i64 wh, .slice va vn vc])]) := Lib.hid (by simpa [oco.row] using I4.out)
      clear I4
      go_loopw [7, 13, 14, 15, 16, 17, 51] (fun v z13 z14 z15 z16 z17 q wr => ∃ j : Nat, j ≤ L2.length ∧ q = .int .i64 j ∧ (∃ z, z13 = z) ∧ (∃ z, z14 = z) ∧ (∃ z, z15 = z) ∧ (∃ z, z16 = z) ∧ (∃ z, z17 = z) ∧ Hid (Inv w wr v (comb 0 (R xss 0) (L1.take k) L2 ++ row 0 (R xss 0) p (L2.take j)) [(g2, 178, cur2), (O1, 178, #[.int .i64 P0, .int .i64 P1, .int .i64 P2]), (g1, 178, cur1), (w.heap.size, 145, #[.int .i64 z, .slice (some ⟨pb, 0, none⟩) 2 2]), (w.heap.size + 1, 28, #[.int .i64 2, .int .i64 2, .int .i64 wh, .slice va vn vc])])) (fun _ _ _ _ _ _ q _ => L2.length - (intOf q).toNat)
      case atStart => exact ⟨0, Nat.zero_le _, rfl, ⟨_, rfl⟩, ⟨_, rfl⟩, ⟨_, rfl⟩, ⟨_, rfl⟩, ⟨_, rfl⟩, I5⟩
      case round =>
        clear I5
        obtain ⟨j, hj, rfl, ⟨z13, rfl⟩, ⟨z14, rfl⟩, ⟨z15, rfl⟩, ⟨z16, rfl⟩, ⟨z17, rfl⟩, hI⟩ := hrel
        obtain ⟨wj, rfl⟩ : ∃ wj : World, wj = wr := ⟨_, rfl⟩
        obtain ⟨vb7, wl7, wc7, rfl⟩ := boxl.shapez hI.out.owns
        by_cases hlj : j < L2.length
        · have hjz : (j : Int) < (L2.length : Int) := by omega
          obtain ⟨q, hq, hqm⟩ : ∃ q, L2[j] = q ∧ q ∈ L2 := ⟨_, rfl, List.getElem_mem hlj⟩
          have HTR := Lib.hid (take_row (y := 0) (R := R xss 0) (p := p) hlj)
          rw [hq] at HTR
          have hcl := cells_at (hI.out.kept _ (List.mem_cons_self ..)).1 HT2.out hlj
          rw [hq] at hcl
          obtain ⟨qm, qt, qn1, qn2⟩ := HF2.out q hqm
          obtain ⟨fm, ft, fn1, fn2⟩ := HF1.out p HPM.out
          have hP0 := HP0.out
          have hP1 := HP1.out
          have hP2 := HP2.out
          obtain ⟨Q0, hQ0⟩ : ∃ Q0 : Int, (q.1 : Int) = Q0 := ⟨_, rfl⟩
          obtain ⟨Q1, hQ1⟩ : ∃ Q1 : Int, (q.2.1 : Int) = Q1 := ⟨_, rfl⟩
          obtain ⟨Q2, hQ2⟩ : ∃ Q2 : Int, q.2.2 = Q2 := ⟨_, rfl⟩
          obtain ⟨X, hX⟩ : ∃ X : Int, ((p.1 ^^^ q.1 : Nat) : Int) = X := ⟨_, rfl⟩
          have hX1 := xor1 fm qm
          have hx : bits .xor .i64 P0 Q0 = X := by rw [← hP0, ← hQ0, ← hX]; exact xor_nat fm qm
          rw [hQ0, hQ1, hQ2] at hcl
          obtain ⟨e0, e1, e2⟩ := hcl
          have HRB : Hid (∀ a, a < 4 → 0 ≤ R xss 0 (p.1 ^^^ q.1) a ∧ R xss 0 (p.1 ^^^ q.1) a ≤ 1000) := Lib.hid (fun a ha => row.nn_bd HOK.out (row.at_lt HOK.out (by omega) (by omega) (by omega) (by omega)) ha)
          have HRW : Hid (∀ W : World, Below w.heap.size w W → Calls Try.prog 165 #[.agg #[.int .i64 2, .int .i64 2, .int .i64 wh, .slice va vn vc], .int .i64 X, .int .i64 0] W fun e w' => e = .returned (.agg #[.int .i64 (R xss 0 (p.1 ^^^ q.1) 0), .int .i64 (R xss 0 (p.1 ^^^ q.1) 1), .int .i64 (R xss 0 (p.1 ^^^ q.1) 2), .int .i64 (R xss 0 (p.1 ^^^ q.1) 3)]) ∧ Below W.heap.size W w') := Lib.hid (fun W hW => by
            rw [← hX]
            exact row.rowof 2 2 wh ((p.1 ^^^ q.1 : Nat) : Int) 0 _ xss W (HBX.out.below hW) HOK.out (by omega) (by omega) (by omega) (by omega))
          have jo := io0 P0 P1 P2 Q0 Q1 Q2
          have hP2b : 0 ≤ P2 ∧ P2 ≤ B := by rw [← hP2]; exact ⟨fn1, fn2⟩
          have hQ2b : 0 ≤ Q2 ∧ Q2 ≤ B := by rw [← hQ2]; exact ⟨qn1, qn2⟩
          have HPB : Hid ((0 ≤ P2 ∧ P2 ≤ 1000) ∧ 0 ≤ Q2 ∧ Q2 ≤ 1000) := Lib.hid ⟨⟨hP2b.1, by have := HBB.out.2; omega⟩, hQ2b.1, by have := HBB.out.2; omega⟩
          have HFQ : Hid ((p.1 ≤ 1 ∧ q.1 ≤ 1) ∧ p.2.1 ≤ 1 ∧ q.2.1 ≤ 1) := Lib.hid ⟨⟨fm, qm⟩, ft, qt⟩
          have HLJ := Lib.hid hlj
          have HQ0 := Lib.hid hQ0
          have HQ1 := Lib.hid hQ1
          have HQ2 := Lib.hid hQ2
          have HLEN : Hid (∀ a, a ≤ 4 → (comb 0 (R xss 0) (L1.take k) L2 ++ row 0 (R xss 0) p (L2.take j) ++ four 0 (R xss 0) p q a).length ≤ 100) := Lib.hid (fun a ha => by
            rw [List.length_append, List.length_append, len_comb, len_row, len_four, List.length_take, List.length_take]
            have h1 := HL2.out.2
            have h2 := HL1.out.2
            have : min k L1.length * (L2.length * 4) ≤ 4 * 16 := Nat.mul_le_mul (by omega) (by omega)
            omega)
          clear hlj hq hqm hQ0 hQ1 hQ2 qm qt qn1 qn2 fm ft fn1 fn2 hX hX1 hP0 hP1 hP2 hP2b hQ2b
          have I6 := Lib.hid (hI.out.add (below_al (Below.refl wj.heap.size wj) (.cells #[.int .i64 Q0, .int .i64 Q1, .int .i64 Q2] 178)) (x := (wj.heap.size, 178, #[.int .i64 Q0, .int .i64 Q1, .int .i64 Q2])) (Blk.new wj _ _) (Nat.le_refl _))
          obtain ⟨W2, hW2⟩ : ∃ W2, wj.alloc (.cells #[.int .i64 Q0, .int .i64 Q1, .int .i64 Q2] 178) = W2 := ⟨_, rfl⟩
          rw [hW2] at I6
          obtain ⟨o0, o1, o2⟩ := three_cells' (I6.out.kept (O1, 178, #[.int .i64 P0, .int .i64 P1, .int .i64 P2]) (by simp)).1
          obtain ⟨t0, t1, t2⟩ := three_cells' (I6.out.kept (wj.heap.size, 178, #[.int .i64 Q0, .int .i64 Q1, .int .i64 Q2]) (by simp)).1
          have I7 := Lib.hid (I6.out.add (below_al (Below.refl W2.heap.size W2) (.cells #[.int .i64 P0, .int .i64 P1, .int .i64 P2] 178)) (x := (W2.heap.size, 178, #[.int .i64 P0, .int .i64 P1, .int .i64 P2])) (Blk.new W2 _ _) (Nat.le_refl _))
          obtain ⟨W3, hW3⟩ : ∃ W3, W2.alloc (.cells #[.int .i64 P0, .int .i64 P1, .int .i64 P2] 178) = W3 := ⟨_, rfl⟩
          rw [hW3] at I7
          have o0' := (three_cells' (I7.out.kept (O1, 178, #[.int .i64 P0, .int .i64 P1, .int .i64 P2]) (by simp)).1).1
          have t0' := (three_cells' (I7.out.kept (wj.heap.size, 178, #[.int .i64 Q0, .int .i64 Q1, .int .i64 Q2]) (by simp)).1).1
          obtain ⟨b0, b1, b2, b3⟩ := four_cells' (I7.out.kept (w.heap.size + 1, 28, #[.int .i64 2, .int .i64 2, .int .i64 wh, .slice va vn vc]) (by simp)).1
          clear I6 hI
          go_wp2_with fail
          refine (HRW.out W3 I7.out.below).mono ?_
          rintro e w6 ⟨rfl, hb⟩
          have I8 := Lib.hid (I7.out.keep hb)
          obtain ⟨r0, hr0⟩ : ∃ r0, R xss 0 (p.1 ^^^ q.1) 0 = r0 := ⟨_, rfl⟩
          obtain ⟨r1, hr1⟩ : ∃ r1, R xss 0 (p.1 ^^^ q.1) 1 = r1 := ⟨_, rfl⟩
          obtain ⟨r2, hr2⟩ : ∃ r2, R xss 0 (p.1 ^^^ q.1) 2 = r2 := ⟨_, rfl⟩
          obtain ⟨r3, hr3⟩ : ∃ r3, R xss 0 (p.1 ^^^ q.1) 3 = r3 := ⟨_, rfl⟩
          rw [hr0, hr1, hr2, hr3]
          have HR0 := Lib.hid hr0
          have HR1 := Lib.hid hr1
          have HR2 := Lib.hid hr2
          have HR3 := Lib.hid hr3
          obtain ⟨O2, hO2⟩ : ∃ O2, wj.heap.size = O2 := ⟨_, rfl⟩
          obtain ⟨O3, hO3⟩ : ∃ O3, W2.heap.size = O3 := ⟨_, rfl⟩
          rw [hO2, hO3] at I8 ⊢
          clear hb hr0 hr1 hr2 hr3 HRW jo hx o0 o1 o2 t0 t1 t2 o0' t0' b0 b1 b2 b3 I7 hW2 hW3 hO2 hO3 e0 e1 e2
          go_wp2_with fail
          have I9 : Hid (Inv w w6 (.slice vb7 wl7 wc7) (comb 0 (R xss 0) (L1.take k) L2 ++ row 0 (R xss 0) p (L2.take j) ++ four 0 (R xss 0) p q 0) [(O3, 178, #[.int .i64 P0, .int .i64 P1, .int .i64 P2]), (O2, 178, #[.int .i64 Q0, .int .i64 Q1, .int .i64 Q2]), (g2, 178, cur2), (O1, 178, #[.int .i64 P0, .int .i64 P1, .int .i64 P2]), (g1, 178, cur1), (w.heap.size, 145, #[.int .i64 z, .slice (some ⟨pb, 0, none⟩) 2 2]), (w.heap.size + 1, 28, #[.int .i64 2, .int .i64 2, .int .i64 wh, .slice va vn vc])]) := Lib.hid (by simpa [oco.four] using I8.out)
          clear I8
          go_loopw [7, 16, 17, 69] (fun v z16 z17 qv wr => ∃ (a : Nat) (zz : Int), Hid (a = 0 ∧ zz = 0 ∨ a = 1 ∧ zz = 1 ∨ a = 2 ∧ zz = 2 ∨ a = 3 ∧ zz = 3 ∨ a = 4 ∧ zz = 4) ∧ qv = .int .i64 zz ∧ (∃ z, z16 = z) ∧ (∃ z, z17 = z) ∧ Hid (Inv w wr v (comb 0 (R xss 0) (L1.take k) L2 ++ row 0 (R xss 0) p (L2.take j) ++ four 0 (R xss 0) p q a) [(O3, 178, #[.int .i64 P0, .int .i64 P1, .int .i64 P2]), (O2, 178, #[.int .i64 Q0, .int .i64 Q1, .int .i64 Q2]), (g2, 178, cur2), (O1, 178, #[.int .i64 P0, .int .i64 P1, .int .i64 P2]), (g1, 178, cur1), (w.heap.size, 145, #[.int .i64 z, .slice (some ⟨pb, 0, none⟩) 2 2]), (w.heap.size + 1, 28, #[.int .i64 2, .int .i64 2, .int .i64 wh, .slice va vn vc])])) (fun _ _ _ qv _ => 4 - (intOf qv).toNat)
          case atStart => exact ⟨0, 0, .inl ⟨rfl, rfl⟩, rfl, ⟨_, rfl⟩, ⟨_, rfl⟩, I9⟩
          case round =>
          clear I9
          obtain ⟨a, zz, haz, rfl, ⟨z16, rfl⟩, ⟨z17, rfl⟩, hI⟩ := hrel
          obtain ⟨wz, rfl⟩ : ∃ wz : World, wz = wr := ⟨_, rfl⟩
          obtain ⟨vz7, zl7, zc7, rfl⟩ := boxl.shapez hI.out.owns
          rcases haz.out with ⟨rfl, rfl⟩ | ⟨rfl, rfl⟩ | ⟨rfl, rfl⟩ | ⟨rfl, rfl⟩ | ⟨rfl, rfl⟩
          · obtain ⟨o0, o1, o2⟩ := three_cells' (hI.out.kept (O1, 178, #[.int .i64 P0, .int .i64 P1, .int .i64 P2]) (by simp)).1
            obtain ⟨t0, t1, t2⟩ := three_cells' (hI.out.kept (O2, 178, #[.int .i64 Q0, .int .i64 Q1, .int .i64 Q2]) (by simp)).1
            obtain ⟨s0, s1, s2⟩ := three_cells' (hI.out.kept (O3, 178, #[.int .i64 P0, .int .i64 P1, .int .i64 P2]) (by simp)).1
            have jc := ic0 r0 r1 r2 r3
            obtain ⟨M, hM⟩ : ∃ M : Int, ((p.1 ^^^ 0 : Nat) : Int) = M := ⟨_, rfl⟩
            obtain ⟨N, hN⟩ : ∃ N : Int, ((p.2.1 ^^^ 0 : Nat) : Int) = N := ⟨_, rfl⟩
            have xm : bits .xor .i64 P0 0 = M := by rw [← HP0.out, ← hM]; exact xor_nat HFQ.out.1.1 (by decide)
            have xn : bits .xor .i64 P1 0 = N := by rw [← HP1.out, ← hN]; exact xor_nat HFQ.out.2.1 (by decide)
            have hb := HRB.out 0 (by decide)
            rw [HR0.out] at hb
            have hpq : 0 ≤ P2 * Q2 ∧ P2 * Q2 ≤ 1000 * 1000 := ⟨Int.mul_nonneg HPB.out.1.1 HPB.out.2.1, Int.mul_le_mul HPB.out.1.2 HPB.out.2.2 HPB.out.2.1 (by decide)⟩
            obtain ⟨pq, hpq2⟩ : ∃ pq, P2 * Q2 = pq := ⟨_, rfl⟩
            rw [hpq2] at hpq
            have hpr : 0 ≤ pq * r0 ∧ pq * r0 ≤ 1000 * 1000 * 1000 := ⟨Int.mul_nonneg hpq.1 hb.1, Int.mul_le_mul hpq.2 hb.2 hb.1 (by decide)⟩
            obtain ⟨pr, hpr2⟩ : ∃ pr, pq * r0 = pr := ⟨_, rfl⟩
            rw [hpr2] at hpr
            have wa1 : wrap64 (P2 * Q2) = pq := by rw [hpq2]; exact IntWalk.wrap64_in _ (by omega)
            have wa2 : IntKind.i64.wrap (P2 * Q2) = pq := by rw [hpq2]; exact IntWalk.i64_in _ (by omega)
            have wb1 : wrap64 (pq * r0) = pr := by rw [hpr2]; exact IntWalk.wrap64_in _ (by omega)
            have wb2 : IntKind.i64.wrap (pq * r0) = pr := by rw [hpr2]; exact IntWalk.i64_in _ (by omega)
            have HOC : Hid ([.int .i64 M, .int .i64 N, .int .i64 pr] = oc (one 0 (R xss 0) p q 0)) := Lib.hid (by
              rw [← hM, ← hN, ← hpr2, ← hpq2, ← HP2.out, ← HQ2.out, ← HR0.out]; rfl)
            have hln := HLEN.out 0 (by decide)
            obtain ⟨OL, hOL⟩ : ∃ OL, comb 0 (R xss 0) (L1.take k) L2 ++ row 0 (R xss 0) p (L2.take j) ++ four 0 (R xss 0) p q 0 = OL := ⟨_, rfl⟩
            rw [hOL] at hI hln
            have HOL := Lib.hid hOL
            have HLN := Lib.hid hln
            clear hOL hln
            have OQ : Hid ((wz.alloc (.cells #[.int .i64 M, .int .i64 N, .int .i64 pr] 178)).ownsRow w.heap.size 178 3 (.slice vz7 zl7 zc7) OL.length (ocs OL)) := Lib.hid (app.owns_below hI.out.owns (below_al (Below.refl _ _) _))
            have hsz := hI.out.below.size
            clear hM hN hpq hpq2 hpr hpr2 hb haz
            go_wp2_with (at_builtin; go_must (refine boxl.app_lies rfl (.tmp 73) (.tmp 92) 142 rfl w.heap.size 178 i0 (.agg #[.int .i64 0, .int .i64 0, .int .i64 0]) 3 24 Try.underlying142 hi hz0 hz1 hz2 rfl (by decide) _ _ _ rfl OQ.out ⟨wz.heap.size, 0, none⟩ 1 1 [.int .i64 M, .int .i64 N, .int .i64 pr] rfl rfl ?c1_0 ?c2_0 ?c3_0 ?c4_0 ?c5_0 (by decide) ?_))
            try (case c1_0 => first | exact three_at _ _ _ _ _ | (intro q u hq; have h5 := three_at wz (.int .i64 M) (.int .i64 N) (.int .i64 pr) 178 q u hq; rw [opn.add_none] at h5; simpa using h5))
            case c2_0 => first | (intro u hu; simp at hu; rcases hu with rfl | rfl | rfl <;> rfl) | exact ⟨rfl, rfl, rfl⟩
            case c3_0 => have h6 := HLN.out; unfold maxLen; omega
            case c4_0 => have h6 := HLN.out; omega
            try (case c5_0 => first | omega | (simp; omega))
            intro v9 w9 hown hgrow hlie
            rw [HOC.out] at hown
            have I9 : Hid (Inv w w9 v9 (comb 0 (R xss 0) (L1.take k) L2 ++ row 0 (R xss 0) p (L2.take j) ++ four 0 (R xss 0) p q 1) [(O3, 178, #[.int .i64 P0, .int .i64 P1, .int .i64 P2]), (O2, 178, #[.int .i64 Q0, .int .i64 Q1, .int .i64 Q2]), (g2, 178, cur2), (O1, 178, #[.int .i64 P0, .int .i64 P1, .int .i64 P2]), (g1, 178, cur1), (w.heap.size, 145, #[.int .i64 z, .slice (some ⟨pb, 0, none⟩) 2 2]), (w.heap.size + 1, 28, #[.int .i64 2, .int .i64 2, .int .i64 wh, .slice va vn vc])]) := Lib.hid (by
              have h5 := hI.out.step (o := .cells #[.int .i64 M, .int .i64 N, .int .i64 pr] 178) hown hgrow (by rcases hlie with e | e; exact .inl e; exact .inr (by rw [e]; simp))
              rw [four_succ, ← List.append_assoc, HOL.out]
              exact h5)
            clear hown hgrow hlie hI OQ
            go_wp2_with fail
            refine ⟨⟨1, 1, .inr (.inl ⟨rfl, rfl⟩), rfl, ⟨_, rfl⟩, ⟨_, rfl⟩, I9⟩, by decide⟩
          · obtain ⟨o0, o1, o2⟩ := three_cells' (hI.out.kept (O1, 178, #[.int .i64 P0, .int .i64 P1, .int .i64 P2]) (by simp)).1
            obtain ⟨t0, t1, t2⟩ := three_cells' (hI.out.kept (O2, 178, #[.int .i64 Q0, .int .i64 Q1, .int .i64 Q2]) (by simp)).1
            obtain ⟨s0, s1, s2⟩ := three_cells' (hI.out.kept (O3, 178, #[.int .i64 P0, .int .i64 P1, .int .i64 P2]) (by simp)).1
            have jc := ic1 r0 r1 r2 r3
            obtain ⟨M, hM⟩ : ∃ M : Int, ((p.1 ^^^ 0 : Nat) : Int) = M := ⟨_, rfl⟩
            obtain ⟨N, hN⟩ : ∃ N : Int, ((p.2.1 ^^^ 1 : Nat) : Int) = N := ⟨_, rfl⟩
            have xm : bits .xor .i64 P0 0 = M := by rw [← HP0.out, ← hM]; exact xor_nat HFQ.out.1.1 (by decide)
            have xn : bits .xor .i64 P1 1 = N := by rw [← HP1.out, ← hN]; exact xor_nat HFQ.out.2.1 (by decide)
            have hb := HRB.out 1 (by decide)
            rw [HR1.out] at hb
            have hpq : 0 ≤ P2 * Q2 ∧ P2 * Q2 ≤ 1000 * 1000 := ⟨Int.mul_nonneg HPB.out.1.1 HPB.out.2.1, Int.mul_le_mul HPB.out.1.2 HPB.out.2.2 HPB.out.2.1 (by decide)⟩
            obtain ⟨pq, hpq2⟩ : ∃ pq, P2 * Q2 = pq := ⟨_, rfl⟩
            rw [hpq2] at hpq
            have hpr : 0 ≤ pq * r1 ∧ pq * r1 ≤ 1000 * 1000 * 1000 := ⟨Int.mul_nonneg hpq.1 hb.1, Int.mul_le_mul hpq.2 hb.2 hb.1 (by decide)⟩
            obtain ⟨pr, hpr2⟩ : ∃ pr, pq * r1 = pr := ⟨_, rfl⟩
            rw [hpr2] at hpr
            have wa1 : wrap64 (P2 * Q2) = pq := by rw [hpq2]; exact IntWalk.wrap64_in _ (by omega)
            have wa2 : IntKind.i64.wrap (P2 * Q2) = pq := by rw [hpq2]; exact IntWalk.i64_in _ (by omega)
            have wb1 : wrap64 (pq * r1) = pr := by rw [hpr2]; exact IntWalk.wrap64_in _ (by omega)
            have wb2 : IntKind.i64.wrap (pq * r1) = pr := by rw [hpr2]; exact IntWalk.i64_in _ (by omega)
            have HOC : Hid ([.int .i64 M, .int .i64 N, .int .i64 pr] = oc (one 0 (R xss 0) p q 1)) := Lib.hid (by
              rw [← hM, ← hN, ← hpr2, ← hpq2, ← HP2.out, ← HQ2.out, ← HR1.out]; rfl)
            have hln := HLEN.out 1 (by decide)
            obtain ⟨OL, hOL⟩ : ∃ OL, comb 0 (R xss 0) (L1.take k) L2 ++ row 0 (R xss 0) p (L2.take j) ++ four 0 (R xss 0) p q 1 = OL := ⟨_, rfl⟩
            rw [hOL] at hI hln
            have HOL := Lib.hid hOL
            have HLN := Lib.hid hln
            clear hOL hln
            have OQ : Hid ((wz.alloc (.cells #[.int .i64 M, .int .i64 N, .int .i64 pr] 178)).ownsRow w.heap.size 178 3 (.slice vz7 zl7 zc7) OL.length (ocs OL)) := Lib.hid (app.owns_below hI.out.owns (below_al (Below.refl _ _) _))
            have hsz := hI.out.below.size
            clear hM hN hpq hpq2 hpr hpr2 hb haz
            go_wp2_with (at_builtin; go_must (refine boxl.app_lies rfl (.tmp 73) (.tmp 92) 142 rfl w.heap.size 178 i0 (.agg #[.int .i64 0, .int .i64 0, .int .i64 0]) 3 24 Try.underlying142 hi hz0 hz1 hz2 rfl (by decide) _ _ _ rfl OQ.out ⟨wz.heap.size, 0, none⟩ 1 1 [.int .i64 M, .int .i64 N, .int .i64 pr] rfl rfl ?c1_1 ?c2_1 ?c3_1 ?c4_1 ?c5_1 (by decide) ?_))
            try (case c1_1 => first | exact three_at _ _ _ _ _ | (intro q u hq; have h5 := three_at wz (.int .i64 M) (.int .i64 N) (.int .i64 pr) 178 q u hq; rw [opn.add_none] at h5; simpa using h5))
            case c2_1 => first | (intro u hu; simp at hu; rcases hu with rfl | rfl | rfl <;> rfl) | exact ⟨rfl, rfl, rfl⟩
            case c3_1 => have h6 := HLN.out; unfold maxLen; omega
            case c4_1 => have h6 := HLN.out; omega
            try (case c5_1 => first | omega | (simp; omega))
            intro v9 w9 hown hgrow hlie
            rw [HOC.out] at hown
            have I9 : Hid (Inv w w9 v9 (comb 0 (R xss 0) (L1.take k) L2 ++ row 0 (R xss 0) p (L2.take j) ++ four 0 (R xss 0) p q 2) [(O3, 178, #[.int .i64 P0, .int .i64 P1, .int .i64 P2]), (O2, 178, #[.int .i64 Q0, .int .i64 Q1, .int .i64 Q2]), (g2, 178, cur2), (O1, 178, #[.int .i64 P0, .int .i64 P1, .int .i64 P2]), (g1, 178, cur1), (w.heap.size, 145, #[.int .i64 z, .slice (some ⟨pb, 0, none⟩) 2 2]), (w.heap.size + 1, 28, #[.int .i64 2, .int .i64 2, .int .i64 wh, .slice va vn vc])]) := Lib.hid (by
              have h5 := hI.out.step (o := .cells #[.int .i64 M, .int .i64 N, .int .i64 pr] 178) hown hgrow (by rcases hlie with e | e; exact .inl e; exact .inr (by rw [e]; simp))
              rw [four_succ, ← List.append_assoc, HOL.out]
              exact h5)
            clear hown hgrow hlie hI OQ
            go_wp2_with fail
            refine ⟨⟨2, 2, .inr (.inr (.inl ⟨rfl, rfl⟩)), rfl, ⟨_, rfl⟩, ⟨_, rfl⟩, I9⟩, by decide⟩
          · obtain ⟨o0, o1, o2⟩ := three_cells' (hI.out.kept (O1, 178, #[.int .i64 P0, .int .i64 P1, .int .i64 P2]) (by simp)).1
            obtain ⟨t0, t1, t2⟩ := three_cells' (hI.out.kept (O2, 178, #[.int .i64 Q0, .int .i64 Q1, .int .i64 Q2]) (by simp)).1
            obtain ⟨s0, s1, s2⟩ := three_cells' (hI.out.kept (O3, 178, #[.int .i64 P0, .int .i64 P1, .int .i64 P2]) (by simp)).1
            have jc := ic2 r0 r1 r2 r3
            obtain ⟨M, hM⟩ : ∃ M : Int, ((p.1 ^^^ 1 : Nat) : Int) = M := ⟨_, rfl⟩
            obtain ⟨N, hN⟩ : ∃ N : Int, ((p.2.1 ^^^ 0 : Nat) : Int) = N := ⟨_, rfl⟩
            have xm : bits .xor .i64 P0 1 = M := by rw [← HP0.out, ← hM]; exact xor_nat HFQ.out.1.1 (by decide)
            have xn : bits .xor .i64 P1 0 = N := by rw [← HP1.out, ← hN]; exact xor_nat HFQ.out.2.1 (by decide)
            have hb := HRB.out 2 (by decide)
            rw [HR2.out] at hb
            have hpq : 0 ≤ P2 * Q2 ∧ P2 * Q2 ≤ 1000 * 1000 := ⟨Int.mul_nonneg HPB.out.1.1 HPB.out.2.1, Int.mul_le_mul HPB.out.1.2 HPB.out.2.2 HPB.out.2.1 (by decide)⟩
            obtain ⟨pq, hpq2⟩ : ∃ pq, P2 * Q2 = pq := ⟨_, rfl⟩
            rw [hpq2] at hpq
            have hpr : 0 ≤ pq * r2 ∧ pq * r2 ≤ 1000 * 1000 * 1000 := ⟨Int.mul_nonneg hpq.1 hb.1, Int.mul_le_mul hpq.2 hb.2 hb.1 (by decide)⟩
            obtain ⟨pr, hpr2⟩ : ∃ pr, pq * r2 = pr := ⟨_, rfl⟩
            rw [hpr2] at hpr
            have wa1 : wrap64 (P2 * Q2) = pq := by rw [hpq2]; exact IntWalk.wrap64_in _ (by omega)
            have wa2 : IntKind.i64.wrap (P2 * Q2) = pq := by rw [hpq2]; exact IntWalk.i64_in _ (by omega)
            have wb1 : wrap64 (pq * r2) = pr := by rw [hpr2]; exact IntWalk.wrap64_in _ (by omega)
            have wb2 : IntKind.i64.wrap (pq * r2) = pr := by rw [hpr2]; exact IntWalk.i64_in _ (by omega)
            have HOC : Hid ([.int .i64 M, .int .i64 N, .int .i64 pr] = oc (one 0 (R xss 0) p q 2)) := Lib.hid (by
              rw [← hM, ← hN, ← hpr2, ← hpq2, ← HP2.out, ← HQ2.out, ← HR2.out]; rfl)
            have hln := HLEN.out 2 (by decide)
            obtain ⟨OL, hOL⟩ : ∃ OL, comb 0 (R xss 0) (L1.take k) L2 ++ row 0 (R xss 0) p (L2.take j) ++ four 0 (R xss 0) p q 2 = OL := ⟨_, rfl⟩
            rw [hOL] at hI hln
            have HOL := Lib.hid hOL
            have HLN := Lib.hid hln
            clear hOL hln
            have OQ : Hid ((wz.alloc (.cells #[.int .i64 M, .int .i64 N, .int .i64 pr] 178)).ownsRow w.heap.size 178 3 (.slice vz7 zl7 zc7) OL.length (ocs OL)) := Lib.hid (app.owns_below hI.out.owns (below_al (Below.refl _ _) _))
            have hsz := hI.out.below.size
            clear hM hN hpq hpq2 hpr hpr2 hb haz
            go_wp2_with (at_builtin; go_must (refine boxl.app_lies rfl (.tmp 73) (.tmp 92) 142 rfl w.heap.size 178 i0 (.agg #[.int .i64 0, .int .i64 0, .int .i64 0]) 3 24 Try.underlying142 hi hz0 hz1 hz2 rfl (by decide) _ _ _ rfl OQ.out ⟨wz.heap.size, 0, none⟩ 1 1 [.int .i64 M, .int .i64 N, .int .i64 pr] rfl rfl ?c1_2 ?c2_2 ?c3_2 ?c4_2 ?c5_2 (by decide) ?_))
            try (case c1_2 => first | exact three_at _ _ _ _ _ | (intro q u hq; have h5 := three_at wz (.int .i64 M) (.int .i64 N) (.int .i64 pr) 178 q u hq; rw [opn.add_none] at h5; simpa using h5))
            case c2_2 => first | (intro u hu; simp at hu; rcases hu with rfl | rfl | rfl <;> rfl) | exact ⟨rfl, rfl, rfl⟩
            case c3_2 => have h6 := HLN.out; unfold maxLen; omega
            case c4_2 => have h6 := HLN.out; omega
            try (case c5_2 => first | omega | (simp; omega))
            intro v9 w9 hown hgrow hlie
            rw [HOC.out] at hown
            have I9 : Hid (Inv w w9 v9 (comb 0 (R xss 0) (L1.take k) L2 ++ row 0 (R xss 0) p (L2.take j) ++ four 0 (R xss 0) p q 3) [(O3, 178, #[.int .i64 P0, .int .i64 P1, .int .i64 P2]), (O2, 178, #[.int .i64 Q0, .int .i64 Q1, .int .i64 Q2]), (g2, 178, cur2), (O1, 178, #[.int .i64 P0, .int .i64 P1, .int .i64 P2]), (g1, 178, cur1), (w.heap.size, 145, #[.int .i64 z, .slice (some ⟨pb, 0, none⟩) 2 2]), (w.heap.size + 1, 28, #[.int .i64 2, .int .i64 2, .int .i64 wh, .slice va vn vc])]) := Lib.hid (by
              have h5 := hI.out.step (o := .cells #[.int .i64 M, .int .i64 N, .int .i64 pr] 178) hown hgrow (by rcases hlie with e | e; exact .inl e; exact .inr (by rw [e]; simp))
              rw [four_succ, ← List.append_assoc, HOL.out]
              exact h5)
            clear hown hgrow hlie hI OQ
            go_wp2_with fail
            refine ⟨⟨3, 3, .inr (.inr (.inr (.inl ⟨rfl, rfl⟩))), rfl, ⟨_, rfl⟩, ⟨_, rfl⟩, I9⟩, by decide⟩
          · obtain ⟨o0, o1, o2⟩ := three_cells' (hI.out.kept (O1, 178, #[.int .i64 P0, .int .i64 P1, .int .i64 P2]) (by simp)).1
            obtain ⟨t0, t1, t2⟩ := three_cells' (hI.out.kept (O2, 178, #[.int .i64 Q0, .int .i64 Q1, .int .i64 Q2]) (by simp)).1
            obtain ⟨s0, s1, s2⟩ := three_cells' (hI.out.kept (O3, 178, #[.int .i64 P0, .int .i64 P1, .int .i64 P2]) (by simp)).1
            have jc := ic3 r0 r1 r2 r3
            obtain ⟨M, hM⟩ : ∃ M : Int, ((p.1 ^^^ 1 : Nat) : Int) = M := ⟨_, rfl⟩
            obtain ⟨N, hN⟩ : ∃ N : Int, ((p.2.1 ^^^ 1 : Nat) : Int) = N := ⟨_, rfl⟩
            have xm : bits .xor .i64 P0 1 = M := by rw [← HP0.out, ← hM]; exact xor_nat HFQ.out.1.1 (by decide)
            have xn : bits .xor .i64 P1 1 = N := by rw [← HP1.out, ← hN]; exact xor_nat HFQ.out.2.1 (by decide)
            have hb := HRB.out 3 (by decide)
            rw [HR3.out] at hb
            have hpq : 0 ≤ P2 * Q2 ∧ P2 * Q2 ≤ 1000 * 1000 := ⟨Int.mul_nonneg HPB.out.1.1 HPB.out.2.1, Int.mul_le_mul HPB.out.1.2 HPB.out.2.2 HPB.out.2.1 (by decide)⟩
            obtain ⟨pq, hpq2⟩ : ∃ pq, P2 * Q2 = pq := ⟨_, rfl⟩
            rw [hpq2] at hpq
            have hpr : 0 ≤ pq * r3 ∧ pq * r3 ≤ 1000 * 1000 * 1000 := ⟨Int.mul_nonneg hpq.1 hb.1, Int.mul_le_mul hpq.2 hb.2 hb.1 (by decide)⟩
            obtain ⟨pr, hpr2⟩ : ∃ pr, pq * r3 = pr := ⟨_, rfl⟩
            rw [hpr2] at hpr
            have wa1 : wrap64 (P2 * Q2) = pq := by rw [hpq2]; exact IntWalk.wrap64_in _ (by omega)
            have wa2 : IntKind.i64.wrap (P2 * Q2) = pq := by rw [hpq2]; exact IntWalk.i64_in _ (by omega)
            have wb1 : wrap64 (pq * r3) = pr := by rw [hpr2]; exact IntWalk.wrap64_in _ (by omega)
            have wb2 : IntKind.i64.wrap (pq * r3) = pr := by rw [hpr2]; exact IntWalk.i64_in _ (by omega)
            have HOC : Hid ([.int .i64 M, .int .i64 N, .int .i64 pr] = oc (one 0 (R xss 0) p q 3)) := Lib.hid (by
              rw [← hM, ← hN, ← hpr2, ← hpq2, ← HP2.out, ← HQ2.out, ← HR3.out]; rfl)
            have hln := HLEN.out 3 (by decide)
            obtain ⟨OL, hOL⟩ : ∃ OL, comb 0 (R xss 0) (L1.take k) L2 ++ row 0 (R xss 0) p (L2.take j) ++ four 0 (R xss 0) p q 3 = OL := ⟨_, rfl⟩
            rw [hOL] at hI hln
            have HOL := Lib.hid hOL
            have HLN := Lib.hid hln
            clear hOL hln
            have OQ : Hid ((wz.alloc (.cells #[.int .i64 M, .int .i64 N, .int .i64 pr] 178)).ownsRow w.heap.size 178 3 (.slice vz7 zl7 zc7) OL.length (ocs OL)) := Lib.hid (app.owns_below hI.out.owns (below_al (Below.refl _ _) _))
            have hsz := hI.out.below.size
            clear hM hN hpq hpq2 hpr hpr2 hb haz
            go_wp2_with (at_builtin; go_must (refine boxl.app_lies rfl (.tmp 73) (.tmp 92) 142 rfl w.heap.size 178 i0 (.agg #[.int .i64 0, .int .i64 0, .int .i64 0]) 3 24 Try.underlying142 hi hz0 hz1 hz2 rfl (by decide) _ _ _ rfl OQ.out ⟨wz.heap.size, 0, none⟩ 1 1 [.int .i64 M, .int .i64 N, .int .i64 pr] rfl rfl ?c1_3 ?c2_3 ?c3_3 ?c4_3 ?c5_3 (by decide) ?_))
            try (case c1_3 => first | exact three_at _ _ _ _ _ | (intro q u hq; have h5 := three_at wz (.int .i64 M) (.int .i64 N) (.int .i64 pr) 178 q u hq; rw [opn.add_none] at h5; simpa using h5))
            case c2_3 => first | (intro u hu; simp at hu; rcases hu with rfl | rfl | rfl <;> rfl) | exact ⟨rfl, rfl, rfl⟩
            case c3_3 => have h6 := HLN.out; unfold maxLen; omega
            case c4_3 => have h6 := HLN.out; omega
            try (case c5_3 => first | omega | (simp; omega))
            intro v9 w9 hown hgrow hlie
            rw [HOC.out] at hown
            have I9 : Hid (Inv w w9 v9 (comb 0 (R xss 0) (L1.take k) L2 ++ row 0 (R xss 0) p (L2.take j) ++ four 0 (R xss 0) p q 4) [(O3, 178, #[.int .i64 P0, .int .i64 P1, .int .i64 P2]), (O2, 178, #[.int .i64 Q0, .int .i64 Q1, .int .i64 Q2]), (g2, 178, cur2), (O1, 178, #[.int .i64 P0, .int .i64 P1, .int .i64 P2]), (g1, 178, cur1), (w.heap.size, 145, #[.int .i64 z, .slice (some ⟨pb, 0, none⟩) 2 2]), (w.heap.size + 1, 28, #[.int .i64 2, .int .i64 2, .int .i64 wh, .slice va vn vc])]) := Lib.hid (by
              have h5 := hI.out.step (o := .cells #[.int .i64 M, .int .i64 N, .int .i64 pr] 178) hown hgrow (by rcases hlie with e | e; exact .inl e; exact .inr (by rw [e]; simp))
              rw [four_succ, ← List.append_assoc, HOL.out]
              exact h5)
            clear hown hgrow hlie hI OQ
            go_wp2_with fail
            refine ⟨⟨4, 4, .inr (.inr (.inr (.inr ⟨rfl, rfl⟩))), rfl, ⟨_, rfl⟩, ⟨_, rfl⟩, I9⟩, by decide⟩
          · have HD : Hid (Inv w wz (.slice vz7 zl7 zc7) (comb 0 (R xss 0) (L1.take k) L2 ++ row 0 (R xss 0) p (L2.take (j + 1))) [(g2, 178, cur2), (O1, 178, #[.int .i64 P0, .int .i64 P1, .int .i64 P2]), (g1, 178, cur1), (w.heap.size, 145, #[.int .i64 z, .slice (some ⟨pb, 0, none⟩) 2 2]), (w.heap.size + 1, 28, #[.int .i64 2, .int .i64 2, .int .i64 wh, .slice va vn vc])]) := Lib.hid (by
              rw [HTR.out, ← List.append_assoc]
              exact hI.out.less (fun x hx => List.mem_cons_of_mem _ (List.mem_cons_of_mem _ hx)))
            clear haz hI
            go_wp2_with fail
            go_roundw
            case rel => exact ⟨j + 1, by have := HLJ.out; omega, by go_num, ⟨_, rfl⟩, ⟨_, rfl⟩, ⟨_, rfl⟩, ⟨_, rfl⟩, ⟨_, rfl⟩, HD⟩
            case measure => have := HLJ.out; simp [intOf]; omega
        · have hjz : ¬ (j : Int) < (L2.length : Int) := by omega
          obtain rfl : j = L2.length := by omega
          have HD : Hid (Inv w wj (.slice vb7 wl7 wc7) (comb 0 (R xss 0) (L1.take (k + 1)) L2) [(g1, 178, cur1), (w.heap.size, 145, #[.int .i64 z, .slice (some ⟨pb, 0, none⟩) 2 2]), (w.heap.size + 1, 28, #[.int .i64 2, .int .i64 2, .int .i64 wh, .slice va vn vc])]) := Lib.hid (by
            rw [HTC.out]
            have h5 := hI.out
            rw [List.take_length] at h5
            exact h5.less (fun x hx => List.mem_cons_of_mem _ (List.mem_cons_of_mem _ hx)))
          clear hI
          go_wp2_with fail
          go_roundw
          case rel => exact ⟨k + 1, by have := HLT.out; omega, by go_num, ⟨_, rfl⟩, ⟨_, rfl⟩, ⟨_, rfl⟩, ⟨_, rfl⟩, ⟨_, rfl⟩, ⟨_, rfl⟩, HD⟩
          case measure => have := HLT.out; simp [intOf]; omega
    · have hkz : ¬ (k : Int) < (L1.length : Int) := by omega
      obtain rfl : k = L1.length := by omega
      have h5 := hI.out.owns
      rw [List.take_length] at h5
      obtain ⟨gg, cur, hli, hge⟩ := lies_of_owns h5 (by rw [len_comb]; exact Nat.mul_pos HL1.out.1 (by have := HL2.out.1; omega))
      have HLI := Lib.hid hli
      clear h5 hli
      go_wp2_with fail
      go_ret
      exact ⟨_, rfl, gg, cur, HLI.out, hge, hI.out.below⟩


set_option maxRecDepth 100000 in
set_option maxHeartbeats 8000000 in
theorem step1 (z : Int) (pb : Nat) (n0 n1 : Int) (A0 A1 : Option Addr) (l0 c0 l1 c1 : Nat) (wh : Int) (bv : Value) (xss : List (List Int)) (ab ao an ac oo on occ : Nat) (L1 L2 : List Oc) (B : Int) (w : World)
    (hp0 : w.cell? ⟨pb, 0, none⟩ = some (.int .i64 n0)) (hp1 : w.cell? ⟨pb, 1, none⟩ = some (.slice A0 l0 c0)) (hp2 : w.cell? ⟨pb, 2, none⟩ = some (.int .i64 n1)) (hp3 : w.cell? ⟨pb, 3, none⟩ = some (.slice A1 l1 c1))
    (hbx : IRows w bv xss) (hok : okBox 2 2 wh xss) (hask : w.cell? ⟨ab, ao, none⟩ = some (.int .i64 1)) (han : 1 ≤ an)
    (hcut : ∀ W, (Instr.slice 44 (.slice (some ⟨ab, ao, none⟩) an ac) (some (.int .i64 1)) none none).run Try.prog W = .ok (.slice (some ⟨ab, oo, none⟩) on occ) W)
    (hl1 : 1 ≤ L1.length ∧ L1.length ≤ 4) (hl2 : 1 ≤ L2.length ∧ L2.length ≤ 4) (hf1 : Fine B L1) (hf2 : Fine B L2) (hB : 0 ≤ B ∧ B ≤ 1000)
    (H0 : ∀ W, Below w.heap.size w W → Calls Try.prog 127 #[.agg #[.int .i64 n0, .slice A0 l0 c0], .agg #[.int .i64 2, .int .i64 2, .int .i64 wh, bv], .slice (some ⟨ab, oo, none⟩) on occ] W fun e w' => ∃ u, e = .returned u ∧ Got W w' u L1)
    (H1 : ∀ W, Below w.heap.size w W → Calls Try.prog 127 #[.agg #[.int .i64 n1, .slice A1 l1 c1], .agg #[.int .i64 2, .int .i64 2, .int .i64 wh, bv], .slice (some ⟨ab, oo, none⟩) on occ] W fun e w' => ∃ u, e = .returned u ∧ Got W w' u L2) :
    Calls Try.prog 127 #[.agg #[.int .i64 z, .slice (some ⟨pb, 0, none⟩) 2 2], .agg #[.int .i64 2, .int .i64 2, .int .i64 wh, bv], .slice (some ⟨ab, ao, none⟩) an ac] w fun e w' => ∃ u, e = .returned u ∧ Got w w' u (comb 1 (R xss 1) L1 L2) := by
  obtain ⟨i0, hi, hz0, hz1, hz2⟩ := info_parts infoOc
  have HBX := Lib.hid hbx
  have HOK := Lib.hid hok
  obtain ⟨va, vn, vc, rfl⟩ := hbx.shape
  have HH0 := Lib.hid H0
  have HH1 := Lib.hid H1
  have HP := Lib.hid (fun (W : World) (h : Below w.heap.size w W) => And.intro (below_cell h _ _ hp0) (And.intro (below_cell h _ _ hp1) (And.intro (below_cell h _ _ hp2) (below_cell h _ _ hp3))))
  have HASK := Lib.hid (fun (W : World) (h : Below w.heap.size w W) => below_cell h _ _ hask)
  have HF1 := Lib.hid hf1
  have HF2 := Lib.hid hf2
  have HBB := Lib.hid hB
  have HL1 := Lib.hid hl1
  have HL2 := Lib.hid hl2
  have hl1z : (L1.length : Int) ≤ 4 := by omega
  have hl2z : (L2.length : Int) ≤ 4 := by omega
  have hanz : (0 : Int) < (an : Int) := by omega
  have hann : 0 < an := by omega
  obtain ⟨w1, hw1⟩ : ∃ w1, (w.alloc (.cells #[.int .i64 z, .slice (some ⟨pb, 0, none⟩) 2 2] 145)).alloc (.cells #[.int .i64 2, .int .i64 2, .int .i64 wh, .slice va vn vc] 28) = w1 := ⟨_, rfl⟩
  have B1 : Below w.heap.size w w1 := hw1 ▸ below_al (below_al (Below.refl _ _) _) _
  have RL : Blk w1 w.heap.size 145 #[.int .i64 z, .slice (some ⟨pb, 0, none⟩) 2 2] := hw1 ▸ (Blk.new w _ _).alloc _
  have BL : Blk w1 (w.heap.size + 1) 28 #[.int .i64 2, .int .i64 2, .int .i64 wh, .slice va vn vc] := hw1 ▸ (by
    have := Blk.new (w.alloc (.cells #[.int .i64 z, .slice (some ⟨pb, 0, none⟩) 2 2] 145)) 28 #[.int .i64 2, .int .i64 2, .int .i64 wh, .slice va vn vc]
    simpa using this)
  have I0 : Hid (Inv w w1 (.slice none 0 0) (comb 1 (R xss 1) (L1.take 0) L2) [(w.heap.size, 145, #[.int .i64 z, .slice (some ⟨pb, 0, none⟩) 2 2]), (w.heap.size + 1, 28, #[.int .i64 2, .int .i64 2, .int .i64 wh, .slice va vn vc])]) := Lib.hid (by
    refine ⟨B1, World.ownsRow_nil _ _ _ _, fun x hx => ?_⟩
    rcases List.mem_cons.1 hx with rfl | hx
    · exact ⟨RL, by simp [Value.ownBlock]⟩
    · rcases List.mem_cons.1 hx with rfl | hx
      · exact ⟨BL, by simp [Value.ownBlock]⟩
      · cases hx)
  clear hbx hok hp0 hp1 hp2 hp3 hask hf1 hf2 hB hl1 hl2 han H0 H1
  obtain ⟨k0, k1⟩ := two_cells' RL
  obtain ⟨b0, b1, b2, b3⟩ := four_cells' BL
  have q0 := HASK.out w1 B1
  obtain ⟨p0, p1, p2, p3⟩ := HP.out w1 B1
  clear RL BL B1
  go_enter Try.func127, Try.ntmps127
  go_wp2_with fail
  go_quiet (fail)
  go_wp2_with fail
  have I1 := Lib.hid (I0.out.keep (below_drewN (Below.refl w1.heap.size w1) nq))
  have HK : (w1.drewN nq).cell? ⟨w.heap.size, 1, none⟩ = some (.slice (some ⟨pb, 0, none⟩) 2 2) ∧ (w1.drewN nq).cell? ⟨pb, 0, none⟩ = some (.int .i64 n0) ∧ (w1.drewN nq).cell? ⟨pb, 1, none⟩ = some (.slice A0 l0 c0) ∧ (w1.drewN nq).cell? ⟨w.heap.size + 1, 0, none⟩ = some (.int .i64 2) ∧ (w1.drewN nq).cell? ⟨w.heap.size + 1, 1, none⟩ = some (.int .i64 2) ∧ (w1.drewN nq).cell? ⟨w.heap.size + 1, 2, none⟩ = some (.int .i64 wh) ∧ (w1.drewN nq).cell? ⟨w.heap.size + 1, 3, none⟩ = some (.slice va vn vc) := ⟨k1, p0, p1, b0, b1, b2, b3⟩
  clear k0 k1 p0 p1 p2 p3 b0 b1 b2 b3 q0 I0
  generalize w1.drewN nq = wq at I1 HK ⊢
  obtain ⟨k1, p0, p1, b0, b1, b2, b3⟩ := HK
  clear hw1
  go_region_held3 (fun w' => w'.cell? ⟨w.heap.size, 1, none⟩ = some (.slice (some ⟨pb, 0, none⟩) 2 2) ∧ w'.cell? ⟨pb, 0, none⟩ = some (.int .i64 n0) ∧ w'.cell? ⟨pb, 1, none⟩ = some (.slice A0 l0 c0) ∧ w'.cell? ⟨w.heap.size + 1, 0, none⟩ = some (.int .i64 2) ∧ w'.cell? ⟨w.heap.size + 1, 1, none⟩ = some (.int .i64 2) ∧ w'.cell? ⟨w.heap.size + 1, 2, none⟩ = some (.int .i64 wh) ∧ w'.cell? ⟨w.heap.size + 1, 3, none⟩ = some (.slice va vn vc) ∧ Below wq.heap.size wq w')
    ((refine held7 k1 p0 p1 b0 b1 b2 b3 ?_; repeat (first | exact Below.refl _ _ | assumption | refine below_dr ?_ | refine below_tr ?_ (by assumption))))
    (first | (go_at_call 127; (with_reducible refine (HH0.out _ ?_).mono ?_); (first | exact I1.out.below | exact below_dr I1.out.below); rintro e w2 ⟨u1, rfl, g1, cur1, ⟨cap1, rfl, hbl1, ht1⟩, hbg1, hb⟩))
  have hb2 : Below wq.heap.size wq w2 := by first | exact hb | exact below_tr (below_dr (Below.refl _ _)) hb
  have I2 := Lib.hid (I1.out.add hb2 (x := (g1, 178, cur1)) hbl1 hbg1)
  have HT1 := Lib.hid ht1
  clear hb hb2 hbl1 hbg1 ht1 k1 p0 p1 b0 b1 b2 b3 I1
  go_wp2_with fail
  go_loopw [7, 11, 13, 14, 15, 16, 17, 39] (fun v z11 z13 z14 z15 z16 z17 q wr => ∃ k : Nat, k ≤ L1.length ∧ q = .int .i64 k ∧ (∃ z, z11 = z) ∧ (∃ z, z13 = z) ∧ (∃ z, z14 = z) ∧ (∃ z, z15 = z) ∧ (∃ z, z16 = z) ∧ (∃ z, z17 = z) ∧ Hid (Inv w wr v (comb 1 (R xss 1) (L1.take k) L2) [(g1, 178, cur1), (w.heap.size, 145, #[.int .i64 z, .slice (some ⟨pb, 0, none⟩) 2 2]), (w.heap.size + 1, 28, #[.int .i64 2, .int .i64 2, .int .i64 wh, .slice va vn vc])])) (fun _ _ _ _ _ _ _ q _ => L1.length - (intOf q).toNat)
  case atStart => exact ⟨0, Nat.zero_le _, rfl, ⟨_, rfl⟩, ⟨_, rfl⟩, ⟨_, rfl⟩, ⟨_, rfl⟩, ⟨_, rfl⟩, ⟨_, rfl⟩, I2⟩
  case round =>
    clear I2
    obtain ⟨k, hk, rfl, ⟨z11, rfl⟩, ⟨z13, rfl⟩, ⟨z14, rfl⟩, ⟨z15, rfl⟩, ⟨z16, rfl⟩, ⟨z17, rfl⟩, hI⟩ := hrel
    obtain ⟨wi, rfl⟩ : ∃ wi : World, wi = wr := ⟨_, rfl⟩
    obtain ⟨va7, vl7, vc7, rfl⟩ := boxl.shapez hI.out.owns
    by_cases hlt : k < L1.length
    · have hkz : (k : Int) < (L1.length : Int) := by omega
      obtain ⟨p, hp, hpm⟩ : ∃ p, L1[k] = p ∧ p ∈ L1 := ⟨_, rfl, List.getElem_mem hlt⟩
      have HTC := Lib.hid (take_comb (y := 1) (R := R xss 1) (L2 := L2) hlt)
      rw [hp] at HTC
      have hcl := cells_at (hI.out.kept _ (List.mem_cons_self ..)).1 HT1.out hlt
      rw [hp] at hcl
      obtain ⟨fm, ft, fn1, fn2⟩ := HF1.out p hpm
      obtain ⟨P0, hP0⟩ : ∃ P0 : Int, (p.1 : Int) = P0 := ⟨_, rfl⟩
      obtain ⟨P1, hP1⟩ : ∃ P1 : Int, (p.2.1 : Int) = P1 := ⟨_, rfl⟩
      obtain ⟨P2, hP2⟩ : ∃ P2 : Int, p.2.2 = P2 := ⟨_, rfl⟩
      rw [hP0, hP1, hP2] at hcl
      obtain ⟨e0, e1, e2⟩ := hcl
      have HLT := Lib.hid hlt
      have HPM := Lib.hid hpm
      have HP0 := Lib.hid hP0
      have HP1 := Lib.hid hP1
      have HP2 := Lib.hid hP2
      clear hlt hp hpm hP0 hP1 hP2 fm ft fn1 fn2
      have I3 := Lib.hid (hI.out.add (below_al (Below.refl wi.heap.size wi) (.cells #[.int .i64 P0, .int .i64 P1, .int .i64 P2] 178)) (x := (wi.heap.size, 178, #[.int .i64 P0, .int .i64 P1, .int .i64 P2])) (Blk.new wi _ _) (Nat.le_refl _))
      go_wp2_with fail
      obtain ⟨W1, hW1⟩ : ∃ W1, wi.alloc (.cells #[.int .i64 P0, .int .i64 P1, .int .i64 P2] 178) = W1 := ⟨_, rfl⟩
      rw [hW1] at I3 ⊢
      obtain ⟨O1, hO1⟩ : ∃ O1, wi.heap.size = O1 := ⟨_, rfl⟩
      rw [hO1] at I3 ⊢
      have k1 := (two_cells' (I3.out.kept (w.heap.size, 145, #[.int .i64 z, .slice (some ⟨pb, 0, none⟩) 2 2]) (by simp)).1).2
      obtain ⟨b0, b1, b2, b3⟩ := four_cells' (I3.out.kept (w.heap.size + 1, 28, #[.int .i64 2, .int .i64 2, .int .i64 wh, .slice va vn vc]) (by simp)).1
      obtain ⟨_, _, p2, p3⟩ := HP.out W1 I3.out.below
      clear hW1 hO1 hI e0 e1 e2
      go_region_held3 (fun w' => w'.cell? ⟨w.heap.size, 1, none⟩ = some (.slice (some ⟨pb, 0, none⟩) 2 2) ∧ w'.cell? ⟨pb, 2, none⟩ = some (.int .i64 n1) ∧ w'.cell? ⟨pb, 3, none⟩ = some (.slice A1 l1 c1) ∧ w'.cell? ⟨w.heap.size + 1, 0, none⟩ = some (.int .i64 2) ∧ w'.cell? ⟨w.heap.size + 1, 1, none⟩ = some (.int .i64 2) ∧ w'.cell? ⟨w.heap.size + 1, 2, none⟩ = some (.int .i64 wh) ∧ w'.cell? ⟨w.heap.size + 1, 3, none⟩ = some (.slice va vn vc) ∧ Below W1.heap.size W1 w')
        ((refine held7 k1 p2 p3 b0 b1 b2 b3 ?_; repeat (first | exact Below.refl _ _ | assumption | refine below_dr ?_ | refine below_tr ?_ (by assumption))))
        (first | (go_at_call 127; (with_reducible refine (HH1.out _ ?_).mono ?_); (first | exact I3.out.below | exact below_dr I3.out.below); rintro e w3 ⟨u2, rfl, g2, cur2, ⟨cap2, rfl, hbl2, ht2⟩, hbg2, hb⟩))
      have hb2 : Below W1.heap.size W1 w3 := by first | exact hb | exact below_tr (below_dr (Below.refl _ _)) hb
      have I4 := Lib.hid (I3.out.add hb2 (x := (g2, 178, cur2)) hbl2 hbg2)
      have HT2 := Lib.hid ht2
      clear hb hb2 hbl2 hbg2 ht2 k1 p2 p3 b0 b1 b2 b3 I3
      go_wp2_with fail
      have I5 : Hid (Inv w w3 (.slice va7 vl7 vc7) (comb 1 (R xss 1) (L1.take k) L2 ++ row 1 (R xss 1) p (L2.take 0)) [(g2, 178, cur2), (O1, 178, #[.int .i64 P0, .int .i64 P1, .int .i64 P2]), (g1, 178, cur1), (w.heap.size, 145, #[.int .i64 z, .slice (some ⟨pb, 0, none⟩) 2 2]), (w.heap.size + 1, 28, #[.int .i64 2, .int .i64 2, .int .i64 wh, .slice va vn vc])]) := Lib.hid (by simpa [oco.row] using I4.out)
      clear I4
      go_loopw [7, 13, 14, 15, 16, 17, 51] (fun v z13 z14 z15 z16 z17 q wr => ∃ j : Nat, j ≤ L2.length ∧ q = .int .i64 j ∧ (∃ z, z13 = z) ∧ (∃ z, z14 = z) ∧ (∃ z, z15 = z) ∧ (∃ z, z16 = z) ∧ (∃ z, z17 = z) ∧ Hid (Inv w wr v (comb 1 (R xss 1) (L1.take k) L2 ++ row 1 (R xss 1) p (L2.take j)) [(g2, 178, cur2), (O1, 178, #[.int .i64 P0, .int .i64 P1, .int .i64 P2]), (g1, 178, cur1), (w.heap.size, 145, #[.int .i64 z, .slice (some ⟨pb, 0, none⟩) 2 2]), (w.heap.size + 1, 28, #[.int .i64 2, .int .i64 2, .int .i64 wh, .slice va vn vc])])) (fun _ _ _ _ _ _ q _ => L2.length - (intOf q).toNat)
      case atStart => exact ⟨0, Nat.zero_le _, rfl, ⟨_, rfl⟩, ⟨_, rfl⟩, ⟨_, rfl⟩, ⟨_, rfl⟩, ⟨_, rfl⟩, I5⟩
      case round =>
        clear I5
        obtain ⟨j, hj, rfl, ⟨z13, rfl⟩, ⟨z14, rfl⟩, ⟨z15, rfl⟩, ⟨z16, rfl⟩, ⟨z17, rfl⟩, hI⟩ := hrel
        obtain ⟨wj, rfl⟩ : ∃ wj : World, wj = wr := ⟨_, rfl⟩
        obtain ⟨vb7, wl7, wc7, rfl⟩ := boxl.shapez hI.out.owns
        by_cases hlj : j < L2.length
        · have hjz : (j : Int) < (L2.length : Int) := by omega
          obtain ⟨q, hq, hqm⟩ : ∃ q, L2[j] = q ∧ q ∈ L2 := ⟨_, rfl, List.getElem_mem hlj⟩
          have HTR := Lib.hid (take_row (y := 1) (R := R xss 1) (p := p) hlj)
          rw [hq] at HTR
          have hcl := cells_at (hI.out.kept _ (List.mem_cons_self ..)).1 HT2.out hlj
          rw [hq] at hcl
          obtain ⟨qm, qt, qn1, qn2⟩ := HF2.out q hqm
          obtain ⟨fm, ft, fn1, fn2⟩ := HF1.out p HPM.out
          have hP0 := HP0.out
          have hP1 := HP1.out
          have hP2 := HP2.out
          obtain ⟨Q0, hQ0⟩ : ∃ Q0 : Int, (q.1 : Int) = Q0 := ⟨_, rfl⟩
          obtain ⟨Q1, hQ1⟩ : ∃ Q1 : Int, (q.2.1 : Int) = Q1 := ⟨_, rfl⟩
          obtain ⟨Q2, hQ2⟩ : ∃ Q2 : Int, q.2.2 = Q2 := ⟨_, rfl⟩
          obtain ⟨X, hX⟩ : ∃ X : Int, ((p.1 ^^^ q.1 : Nat) : Int) = X := ⟨_, rfl⟩
          have hX1 := xor1 fm qm
          have hx : bits .xor .i64 P0 Q0 = X := by rw [← hP0, ← hQ0, ← hX]; exact xor_nat fm qm
          rw [hQ0, hQ1, hQ2] at hcl
          obtain ⟨e0, e1, e2⟩ := hcl
          have HRB : Hid (∀ a, a < 4 → 0 ≤ R xss 1 (p.1 ^^^ q.1) a ∧ R xss 1 (p.1 ^^^ q.1) a ≤ 1000) := Lib.hid (fun a ha => row.nn_bd HOK.out (row.at_lt HOK.out (by omega) (by omega) (by omega) (by omega)) ha)
          have HRW : Hid (∀ W : World, Below w.heap.size w W → Calls Try.prog 165 #[.agg #[.int .i64 2, .int .i64 2, .int .i64 wh, .slice va vn vc], .int .i64 X, .int .i64 1] W fun e w' => e = .returned (.agg #[.int .i64 (R xss 1 (p.1 ^^^ q.1) 0), .int .i64 (R xss 1 (p.1 ^^^ q.1) 1), .int .i64 (R xss 1 (p.1 ^^^ q.1) 2), .int .i64 (R xss 1 (p.1 ^^^ q.1) 3)]) ∧ Below W.heap.size W w') := Lib.hid (fun W hW => by
            rw [← hX]
            exact row.rowof 2 2 wh ((p.1 ^^^ q.1 : Nat) : Int) 1 _ xss W (HBX.out.below hW) HOK.out (by omega) (by omega) (by omega) (by omega))
          have jo := io1 P0 P1 P2 Q0 Q1 Q2
          have hP2b : 0 ≤ P2 ∧ P2 ≤ B := by rw [← hP2]; exact ⟨fn1, fn2⟩
          have hQ2b : 0 ≤ Q2 ∧ Q2 ≤ B := by rw [← hQ2]; exact ⟨qn1, qn2⟩
          have HPB : Hid ((0 ≤ P2 ∧ P2 ≤ 1000) ∧ 0 ≤ Q2 ∧ Q2 ≤ 1000) := Lib.hid ⟨⟨hP2b.1, by have := HBB.out.2; omega⟩, hQ2b.1, by have := HBB.out.2; omega⟩
          have HFQ : Hid ((p.1 ≤ 1 ∧ q.1 ≤ 1) ∧ p.2.1 ≤ 1 ∧ q.2.1 ≤ 1) := Lib.hid ⟨⟨fm, qm⟩, ft, qt⟩
          have HLJ := Lib.hid hlj
          have HQ0 := Lib.hid hQ0
          have HQ1 := Lib.hid hQ1
          have HQ2 := Lib.hid hQ2
          have HLEN : Hid (∀ a, a ≤ 4 → (comb 1 (R xss 1) (L1.take k) L2 ++ row 1 (R xss 1) p (L2.take j) ++ four 1 (R xss 1) p q a).length ≤ 100) := Lib.hid (fun a ha => by
            rw [List.length_append, List.length_append, len_comb, len_row, len_four, List.length_take, List.length_take]
            have h1 := HL2.out.2
            have h2 := HL1.out.2
            have : min k L1.length * (L2.length * 4) ≤ 4 * 16 := Nat.mul_le_mul (by omega) (by omega)
            omega)
          clear hlj hq hqm hQ0 hQ1 hQ2 qm qt qn1 qn2 fm ft fn1 fn2 hX hX1 hP0 hP1 hP2 hP2b hQ2b
          have I6 := Lib.hid (hI.out.add (below_al (Below.refl wj.heap.size wj) (.cells #[.int .i64 Q0, .int .i64 Q1, .int .i64 Q2] 178)) (x := (wj.heap.size, 178, #[.int .i64 Q0, .int .i64 Q1, .int .i64 Q2])) (Blk.new wj _ _) (Nat.le_refl _))
          obtain ⟨W2, hW2⟩ : ∃ W2, wj.alloc (.cells #[.int .i64 Q0, .int .i64 Q1, .int .i64 Q2] 178) = W2 := ⟨_, rfl⟩
          rw [hW2] at I6
          obtain ⟨o0, o1, o2⟩ := three_cells' (I6.out.kept (O1, 178, #[.int .i64 P0, .int .i64 P1, .int .i64 P2]) (by simp)).1
          obtain ⟨t0, t1, t2⟩ := three_cells' (I6.out.kept (wj.heap.size, 178, #[.int .i64 Q0, .int .i64 Q1, .int .i64 Q2]) (by simp)).1
          have I7 := Lib.hid (I6.out.add (below_al (Below.refl W2.heap.size W2) (.cells #[.int .i64 Q0, .int .i64 Q1, .int .i64 Q2] 178)) (x := (W2.heap.size, 178, #[.int .i64 Q0, .int .i64 Q1, .int .i64 Q2])) (Blk.new W2 _ _) (Nat.le_refl _))
          obtain ⟨W3, hW3⟩ : ∃ W3, W2.alloc (.cells #[.int .i64 Q0, .int .i64 Q1, .int .i64 Q2] 178) = W3 := ⟨_, rfl⟩
          rw [hW3] at I7
          have o0' := (three_cells' (I7.out.kept (O1, 178, #[.int .i64 P0, .int .i64 P1, .int .i64 P2]) (by simp)).1).1
          have t0' := (three_cells' (I7.out.kept (wj.heap.size, 178, #[.int .i64 Q0, .int .i64 Q1, .int .i64 Q2]) (by simp)).1).1
          obtain ⟨b0, b1, b2, b3⟩ := four_cells' (I7.out.kept (w.heap.size + 1, 28, #[.int .i64 2, .int .i64 2, .int .i64 wh, .slice va vn vc]) (by simp)).1
          clear I6 hI
          go_wp2_with fail
          refine (HRW.out W3 I7.out.below).mono ?_
          rintro e w6 ⟨rfl, hb⟩
          have I8 := Lib.hid (I7.out.keep hb)
          obtain ⟨r0, hr0⟩ : ∃ r0, R xss 1 (p.1 ^^^ q.1) 0 = r0 := ⟨_, rfl⟩
          obtain ⟨r1, hr1⟩ : ∃ r1, R xss 1 (p.1 ^^^ q.1) 1 = r1 := ⟨_, rfl⟩
          obtain ⟨r2, hr2⟩ : ∃ r2, R xss 1 (p.1 ^^^ q.1) 2 = r2 := ⟨_, rfl⟩
          obtain ⟨r3, hr3⟩ : ∃ r3, R xss 1 (p.1 ^^^ q.1) 3 = r3 := ⟨_, rfl⟩
          rw [hr0, hr1, hr2, hr3]
          have HR0 := Lib.hid hr0
          have HR1 := Lib.hid hr1
          have HR2 := Lib.hid hr2
          have HR3 := Lib.hid hr3
          obtain ⟨O2, hO2⟩ : ∃ O2, wj.heap.size = O2 := ⟨_, rfl⟩
          obtain ⟨O3, hO3⟩ : ∃ O3, W2.heap.size = O3 := ⟨_, rfl⟩
          rw [hO2, hO3] at I8 ⊢
          clear hb hr0 hr1 hr2 hr3 HRW jo hx o0 o1 o2 t0 t1 t2 o0' t0' b0 b1 b2 b3 I7 hW2 hW3 hO2 hO3 e0 e1 e2
          go_wp2_with fail
          have I9 : Hid (Inv w w6 (.slice vb7 wl7 wc7) (comb 1 (R xss 1) (L1.take k) L2 ++ row 1 (R xss 1) p (L2.take j) ++ four 1 (R xss 1) p q 0) [(O3, 178, #[.int .i64 Q0, .int .i64 Q1, .int .i64 Q2]), (O2, 178, #[.int .i64 Q0, .int .i64 Q1, .int .i64 Q2]), (g2, 178, cur2), (O1, 178, #[.int .i64 P0, .int .i64 P1, .int .i64 P2]), (g1, 178, cur1), (w.heap.size, 145, #[.int .i64 z, .slice (some ⟨pb, 0, none⟩) 2 2]), (w.heap.size + 1, 28, #[.int .i64 2, .int .i64 2, .int .i64 wh, .slice va vn vc])]) := Lib.hid (by simpa [oco.four] using I8.out)
          clear I8
          go_loopw [7, 16, 17, 69] (fun v z16 z17 qv wr => ∃ (a : Nat) (zz : Int), Hid (a = 0 ∧ zz = 0 ∨ a = 1 ∧ zz = 1 ∨ a = 2 ∧ zz = 2 ∨ a = 3 ∧ zz = 3 ∨ a = 4 ∧ zz = 4) ∧ qv = .int .i64 zz ∧ (∃ z, z16 = z) ∧ (∃ z, z17 = z) ∧ Hid (Inv w wr v (comb 1 (R xss 1) (L1.take k) L2 ++ row 1 (R xss 1) p (L2.take j) ++ four 1 (R xss 1) p q a) [(O3, 178, #[.int .i64 Q0, .int .i64 Q1, .int .i64 Q2]), (O2, 178, #[.int .i64 Q0, .int .i64 Q1, .int .i64 Q2]), (g2, 178, cur2), (O1, 178, #[.int .i64 P0, .int .i64 P1, .int .i64 P2]), (g1, 178, cur1), (w.heap.size, 145, #[.int .i64 z, .slice (some ⟨pb, 0, none⟩) 2 2]), (w.heap.size + 1, 28, #[.int .i64 2, .int .i64 2, .int .i64 wh, .slice va vn vc])])) (fun _ _ _ qv _ => 4 - (intOf qv).toNat)
          case atStart => exact ⟨0, 0, .inl ⟨rfl, rfl⟩, rfl, ⟨_, rfl⟩, ⟨_, rfl⟩, I9⟩
          case round =>
          clear I9
          obtain ⟨a, zz, haz, rfl, ⟨z16, rfl⟩, ⟨z17, rfl⟩, hI⟩ := hrel
          obtain ⟨wz, rfl⟩ : ∃ wz : World, wz = wr := ⟨_, rfl⟩
          obtain ⟨vz7, zl7, zc7, rfl⟩ := boxl.shapez hI.out.owns
          rcases haz.out with ⟨rfl, rfl⟩ | ⟨rfl, rfl⟩ | ⟨rfl, rfl⟩ | ⟨rfl, rfl⟩ | ⟨rfl, rfl⟩
          · obtain ⟨o0, o1, o2⟩ := three_cells' (hI.out.kept (O1, 178, #[.int .i64 P0, .int .i64 P1, .int .i64 P2]) (by simp)).1
            obtain ⟨t0, t1, t2⟩ := three_cells' (hI.out.kept (O2, 178, #[.int .i64 Q0, .int .i64 Q1, .int .i64 Q2]) (by simp)).1
            obtain ⟨s0, s1, s2⟩ := three_cells' (hI.out.kept (O3, 178, #[.int .i64 Q0, .int .i64 Q1, .int .i64 Q2]) (by simp)).1
            have jc := ic0 r0 r1 r2 r3
            obtain ⟨M, hM⟩ : ∃ M : Int, ((p.1 ^^^ 0 : Nat) : Int) = M := ⟨_, rfl⟩
            obtain ⟨N, hN⟩ : ∃ N : Int, ((q.2.1 ^^^ 0 : Nat) : Int) = N := ⟨_, rfl⟩
            have xm : bits .xor .i64 P0 0 = M := by rw [← HP0.out, ← hM]; exact xor_nat HFQ.out.1.1 (by decide)
            have xn : bits .xor .i64 Q1 0 = N := by rw [← HQ1.out, ← hN]; exact xor_nat HFQ.out.2.2 (by decide)
            have hb := HRB.out 0 (by decide)
            rw [HR0.out] at hb
            have hpq : 0 ≤ P2 * Q2 ∧ P2 * Q2 ≤ 1000 * 1000 := ⟨Int.mul_nonneg HPB.out.1.1 HPB.out.2.1, Int.mul_le_mul HPB.out.1.2 HPB.out.2.2 HPB.out.2.1 (by decide)⟩
            obtain ⟨pq, hpq2⟩ : ∃ pq, P2 * Q2 = pq := ⟨_, rfl⟩
            rw [hpq2] at hpq
            have hpr : 0 ≤ pq * r0 ∧ pq * r0 ≤ 1000 * 1000 * 1000 := ⟨Int.mul_nonneg hpq.1 hb.1, Int.mul_le_mul hpq.2 hb.2 hb.1 (by decide)⟩
            obtain ⟨pr, hpr2⟩ : ∃ pr, pq * r0 = pr := ⟨_, rfl⟩
            rw [hpr2] at hpr
            have wa1 : wrap64 (P2 * Q2) = pq := by rw [hpq2]; exact IntWalk.wrap64_in _ (by omega)
            have wa2 : IntKind.i64.wrap (P2 * Q2) = pq := by rw [hpq2]; exact IntWalk.i64_in _ (by omega)
            have wb1 : wrap64 (pq * r0) = pr := by rw [hpr2]; exact IntWalk.wrap64_in _ (by omega)
            have wb2 : IntKind.i64.wrap (pq * r0) = pr := by rw [hpr2]; exact IntWalk.i64_in _ (by omega)
            have HOC : Hid ([.int .i64 M, .int .i64 N, .int .i64 pr] = oc (one 1 (R xss 1) p q 0)) := Lib.hid (by
              rw [← hM, ← hN, ← hpr2, ← hpq2, ← HP2.out, ← HQ2.out, ← HR0.out]; rfl)
            have hln := HLEN.out 0 (by decide)
            obtain ⟨OL, hOL⟩ : ∃ OL, comb 1 (R xss 1) (L1.take k) L2 ++ row 1 (R xss 1) p (L2.take j) ++ four 1 (R xss 1) p q 0 = OL := ⟨_, rfl⟩
            rw [hOL] at hI hln
            have HOL := Lib.hid hOL
            have HLN := Lib.hid hln
            clear hOL hln
            have OQ : Hid ((wz.alloc (.cells #[.int .i64 M, .int .i64 N, .int .i64 pr] 178)).ownsRow w.heap.size 178 3 (.slice vz7 zl7 zc7) OL.length (ocs OL)) := Lib.hid (app.owns_below hI.out.owns (below_al (Below.refl _ _) _))
            have hsz := hI.out.below.size
            clear hM hN hpq hpq2 hpr hpr2 hb haz
            go_wp2_with (at_builtin; go_must (refine boxl.app_lies rfl (.tmp 73) (.tmp 92) 142 rfl w.heap.size 178 i0 (.agg #[.int .i64 0, .int .i64 0, .int .i64 0]) 3 24 Try.underlying142 hi hz0 hz1 hz2 rfl (by decide) _ _ _ rfl OQ.out ⟨wz.heap.size, 0, none⟩ 1 1 [.int .i64 M, .int .i64 N, .int .i64 pr] rfl rfl ?c1_0 ?c2_0 ?c3_0 ?c4_0 ?c5_0 (by decide) ?_))
            try (case c1_0 => first | exact three_at _ _ _ _ _ | (intro q u hq; have h5 := three_at wz (.int .i64 M) (.int .i64 N) (.int .i64 pr) 178 q u hq; rw [opn.add_none] at h5; simpa using h5))
            case c2_0 => first | (intro u hu; simp at hu; rcases hu with rfl | rfl | rfl <;> rfl) | exact ⟨rfl, rfl, rfl⟩
            case c3_0 => have h6 := HLN.out; unfold maxLen; omega
            case c4_0 => have h6 := HLN.out; omega
            try (case c5_0 => first | omega | (simp; omega))
            intro v9 w9 hown hgrow hlie
            rw [HOC.out] at hown
            have I9 : Hid (Inv w w9 v9 (comb 1 (R xss 1) (L1.take k) L2 ++ row 1 (R xss 1) p (L2.take j) ++ four 1 (R xss 1) p q 1) [(O3, 178, #[.int .i64 Q0, .int .i64 Q1, .int .i64 Q2]), (O2, 178, #[.int .i64 Q0, .int .i64 Q1, .int .i64 Q2]), (g2, 178, cur2), (O1, 178, #[.int .i64 P0, .int .i64 P1, .int .i64 P2]), (g1, 178, cur1), (w.heap.size, 145, #[.int .i64 z, .slice (some ⟨pb, 0, none⟩) 2 2]), (w.heap.size + 1, 28, #[.int .i64 2, .int .i64 2, .int .i64 wh, .slice va vn vc])]) := Lib.hid (by
              have h5 := hI.out.step (o := .cells #[.int .i64 M, .int .i64 N, .int .i64 pr] 178) hown hgrow (by rcases hlie with e | e; exact .inl e; exact .inr (by rw [e]; simp))
              rw [four_succ, ← List.append_assoc, HOL.out]
              exact h5)
            clear hown hgrow hlie hI OQ
            go_wp2_with fail
            refine ⟨⟨1, 1, .inr (.inl ⟨rfl, rfl⟩), rfl, ⟨_, rfl⟩, ⟨_, rfl⟩, I9⟩, by decide⟩
          · obtain ⟨o0, o1, o2⟩ := three_cells' (hI.out.kept (O1, 178, #[.int .i64 P0, .int .i64 P1, .int .i64 P2]) (by simp)).1
            obtain ⟨t0, t1, t2⟩ := three_cells' (hI.out.kept (O2, 178, #[.int .i64 Q0, .int .i64 Q1, .int .i64 Q2]) (by simp)).1
            obtain ⟨s0, s1, s2⟩ := three_cells' (hI.out.kept (O3, 178, #[.int .i64 Q0, .int .i64 Q1, .int .i64 Q2]) (by simp)).1
            have jc := ic1 r0 r1 r2 r3
            obtain ⟨M, hM⟩ : ∃ M : Int, ((p.1 ^^^ 0 : Nat) : Int) = M := ⟨_, rfl⟩
            obtain ⟨N, hN⟩ : ∃ N : Int, ((q.2.1 ^^^ 1 : Nat) : Int) = N := ⟨_, rfl⟩
            have xm : bits .xor .i64 P0 0 = M := by rw [← HP0.out, ← hM]; exact xor_nat HFQ.out.1.1 (by decide)
            have xn : bits .xor .i64 Q1 1 = N := by rw [← HQ1.out, ← hN]; exact xor_nat HFQ.out.2.2 (by decide)
            have hb := HRB.out 1 (by decide)
            rw [HR1.out] at hb
            have hpq : 0 ≤ P2 * Q2 ∧ P2 * Q2 ≤ 1000 * 1000 := ⟨Int.mul_nonneg HPB.out.1.1 HPB.out.2.1, Int.mul_le_mul HPB.out.1.2 HPB.out.2.2 HPB.out.2.1 (by decide)⟩
            obtain ⟨pq, hpq2⟩ : ∃ pq, P2 * Q2 = pq := ⟨_, rfl⟩
            rw [hpq2] at hpq
            have hpr : 0 ≤ pq * r1 ∧ pq * r1 ≤ 1000 * 1000 * 1000 := ⟨Int.mul_nonneg hpq.1 hb.1, Int.mul_le_mul hpq.2 hb.2 hb.1 (by decide)⟩
            obtain ⟨pr, hpr2⟩ : ∃ pr, pq * r1 = pr := ⟨_, rfl⟩
            rw [hpr2] at hpr
            have wa1 : wrap64 (P2 * Q2) = pq := by rw [hpq2]; exact IntWalk.wrap64_in _ (by omega)
            have wa2 : IntKind.i64.wrap (P2 * Q2) = pq := by rw [hpq2]; exact IntWalk.i64_in _ (by omega)
            have wb1 : wrap64 (pq * r1) = pr := by rw [hpr2]; exact IntWalk.wrap64_in _ (by omega)
            have wb2 : IntKind.i64.wrap (pq * r1) = pr := by rw [hpr2]; exact IntWalk.i64_in _ (by omega)
            have HOC : Hid ([.int .i64 M, .int .i64 N, .int .i64 pr] = oc (one 1 (R xss 1) p q 1)) := Lib.hid (by
              rw [← hM, ← hN, ← hpr2, ← hpq2, ← HP2.out, ← HQ2.out, ← HR1.out]; rfl)
            have hln := HLEN.out 1 (by decide)
            obtain ⟨OL, hOL⟩ : ∃ OL, comb 1 (R xss 1) (L1.take k) L2 ++ row 1 (R xss 1) p (L2.take j) ++ four 1 (R xss 1) p q 1 = OL := ⟨_, rfl⟩
            rw [hOL] at hI hln
            have HOL := Lib.hid hOL
            have HLN := Lib.hid hln
            clear hOL hln
            have OQ : Hid ((wz.alloc (.cells #[.int .i64 M, .int .i64 N, .int .i64 pr] 178)).ownsRow w.heap.size 178 3 (.slice vz7 zl7 zc7) OL.length (ocs OL)) := Lib.hid (app.owns_below hI.out.owns (below_al (Below.refl _ _) _))
            have hsz := hI.out.below.size
            clear hM hN hpq hpq2 hpr hpr2 hb haz
            go_wp2_with (at_builtin; go_must (refine boxl.app_lies rfl (.tmp 73) (.tmp 92) 142 rfl w.heap.size 178 i0 (.agg #[.int .i64 0, .int .i64 0, .int .i64 0]) 3 24 Try.underlying142 hi hz0 hz1 hz2 rfl (by decide) _ _ _ rfl OQ.out ⟨wz.heap.size, 0, none⟩ 1 1 [.int .i64 M, .int .i64 N, .int .i64 pr] rfl rfl ?c1_1 ?c2_1 ?c3_1 ?c4_1 ?c5_1 (by decide) ?_))
            try (case c1_1 => first | exact three_at _ _ _ _ _ | (intro q u hq; have h5 := three_at wz (.int .i64 M) (.int .i64 N) (.int .i64 pr) 178 q u hq; rw [opn.add_none] at h5; simpa using h5))
            case c2_1 => first | (intro u hu; simp at hu; rcases hu with rfl | rfl | rfl <;> rfl) | exact ⟨rfl, rfl, rfl⟩
            case c3_1 => have h6 := HLN.out; unfold maxLen; omega
            case c4_1 => have h6 := HLN.out; omega
            try (case c5_1 => first | omega | (simp; omega))
            intro v9 w9 hown hgrow hlie
            rw [HOC.out] at hown
            have I9 : Hid (Inv w w9 v9 (comb 1 (R xss 1) (L1.take k) L2 ++ row 1 (R xss 1) p (L2.take j) ++ four 1 (R xss 1) p q 2) [(O3, 178, #[.int .i64 Q0, .int .i64 Q1, .int .i64 Q2]), (O2, 178, #[.int .i64 Q0, .int .i64 Q1, .int .i64 Q2]), (g2, 178, cur2), (O1, 178, #[.int .i64 P0, .int .i64 P1, .int .i64 P2]), (g1, 178, cur1), (w.heap.size, 145, #[.int .i64 z, .slice (some ⟨pb, 0, none⟩) 2 2]), (w.heap.size + 1, 28, #[.int .i64 2, .int .i64 2, .int .i64 wh, .slice va vn vc])]) := Lib.hid (by
              have h5 := hI.out.step (o := .cells #[.int .i64 M, .int .i64 N, .int .i64 pr] 178) hown hgrow (by rcases hlie with e | e; exact .inl e; exact .inr (by rw [e]; simp))
              rw [four_succ, ← List.append_assoc, HOL.out]
              exact h5)
            clear hown hgrow hlie hI OQ
            go_wp2_with fail
            refine ⟨⟨2, 2, .inr (.inr (.inl ⟨rfl, rfl⟩)), rfl, ⟨_, rfl⟩, ⟨_, rfl⟩, I9⟩, by decide⟩
          · obtain ⟨o0, o1, o2⟩ := three_cells' (hI.out.kept (O1, 178, #[.int .i64 P0, .int .i64 P1, .int .i64 P2]) (by simp)).1
            obtain ⟨t0, t1, t2⟩ := three_cells' (hI.out.kept (O2, 178, #[.int .i64 Q0, .int .i64 Q1, .int .i64 Q2]) (by simp)).1
            obtain ⟨s0, s1, s2⟩ := three_cells' (hI.out.kept (O3, 178, #[.int .i64 Q0, .int .i64 Q1, .int .i64 Q2]) (by simp)).1
            have jc := ic2 r0 r1 r2 r3
            obtain ⟨M, hM⟩ : ∃ M : Int, ((p.1 ^^^ 1 : Nat) : Int) = M := ⟨_, rfl⟩
            obtain ⟨N, hN⟩ : ∃ N : Int, ((q.2.1 ^^^ 0 : Nat) : Int) = N := ⟨_, rfl⟩
            have xm : bits .xor .i64 P0 1 = M := by rw [← HP0.out, ← hM]; exact xor_nat HFQ.out.1.1 (by decide)
            have xn : bits .xor .i64 Q1 0 = N := by rw [← HQ1.out, ← hN]; exact xor_nat HFQ.out.2.2 (by decide)
            have hb := HRB.out 2 (by decide)
            rw [HR2.out] at hb
            have hpq : 0 ≤ P2 * Q2 ∧ P2 * Q2 ≤ 1000 * 1000 := ⟨Int.mul_nonneg HPB.out.1.1 HPB.out.2.1, Int.mul_le_mul HPB.out.1.2 HPB.out.2.2 HPB.out.2.1 (by decide)⟩
            obtain ⟨pq, hpq2⟩ : ∃ pq, P2 * Q2 = pq := ⟨_, rfl⟩
            rw [hpq2] at hpq
            have hpr : 0 ≤ pq * r2 ∧ pq * r2 ≤ 1000 * 1000 * 1000 := ⟨Int.mul_nonneg hpq.1 hb.1, Int.mul_le_mul hpq.2 hb.2 hb.1 (by decide)⟩
            obtain ⟨pr, hpr2⟩ : ∃ pr, pq * r2 = pr := ⟨_, rfl⟩
            rw [hpr2] at hpr
            have wa1 : wrap64 (P2 * Q2) = pq := by rw [hpq2]; exact IntWalk.wrap64_in _ (by omega)
            have wa2 : IntKind.i64.wrap (P2 * Q2) = pq := by rw [hpq2]; exact IntWalk.i64_in _ (by omega)
            have wb1 : wrap64 (pq * r2) = pr := by rw [hpr2]; exact IntWalk.wrap64_in _ (by omega)
            have wb2 : IntKind.i64.wrap (pq * r2) = pr := by rw [hpr2]; exact IntWalk.i64_in _ (by omega)
            have HOC : Hid ([.int .i64 M, .int .i64 N, .int .i64 pr] = oc (one 1 (R xss 1) p q 2)) := Lib.hid (by
              rw [← hM, ← hN, ← hpr2, ← hpq2, ← HP2.out, ← HQ2.out, ← HR2.out]; rfl)
            have hln := HLEN.out 2 (by decide)
            obtain ⟨OL, hOL⟩ : ∃ OL, comb 1 (R xss 1) (L1.take k) L2 ++ row 1 (R xss 1) p (L2.take j) ++ four 1 (R xss 1) p q 2 = OL := ⟨_, rfl⟩
            rw [hOL] at hI hln
            have HOL := Lib.hid hOL
            have HLN := Lib.hid hln
            clear hOL hln
            have OQ : Hid ((wz.alloc (.cells #[.int .i64 M, .int .i64 N, .int .i64 pr] 178)).ownsRow w.heap.size 178 3 (.slice vz7 zl7 zc7) OL.length (ocs OL)) := Lib.hid (app.owns_below hI.out.owns (below_al (Below.refl _ _) _))
            have hsz := hI.out.below.size
            clear hM hN hpq hpq2 hpr hpr2 hb haz
            go_wp2_with (at_builtin; go_must (refine boxl.app_lies rfl (.tmp 73) (.tmp 92) 142 rfl w.heap.size 178 i0 (.agg #[.int .i64 0, .int .i64 0, .int .i64 0]) 3 24 Try.underlying142 hi hz0 hz1 hz2 rfl (by decide) _ _ _ rfl OQ.out ⟨wz.heap.size, 0, none⟩ 1 1 [.int .i64 M, .int .i64 N, .int .i64 pr] rfl rfl ?c1_2 ?c2_2 ?c3_2 ?c4_2 ?c5_2 (by decide) ?_))
            try (case c1_2 => first | exact three_at _ _ _ _ _ | (intro q u hq; have h5 := three_at wz (.int .i64 M) (.int .i64 N) (.int .i64 pr) 178 q u hq; rw [opn.add_none] at h5; simpa using h5))
            case c2_2 => first | (intro u hu; simp at hu; rcases hu with rfl | rfl | rfl <;> rfl) | exact ⟨rfl, rfl, rfl⟩
            case c3_2 => have h6 := HLN.out; unfold maxLen; omega
            case c4_2 => have h6 := HLN.out; omega
            try (case c5_2 => first | omega | (simp; omega))
            intro v9 w9 hown hgrow hlie
            rw [HOC.out] at hown
            have I9 : Hid (Inv w w9 v9 (comb 1 (R xss 1) (L1.take k) L2 ++ row 1 (R xss 1) p (L2.take j) ++ four 1 (R xss 1) p q 3) [(O3, 178, #[.int .i64 Q0, .int .i64 Q1, .int .i64 Q2]), (O2, 178, #[.int .i64 Q0, .int .i64 Q1, .int .i64 Q2]), (g2, 178, cur2), (O1, 178, #[.int .i64 P0, .int .i64 P1, .int .i64 P2]), (g1, 178, cur1), (w.heap.size, 145, #[.int .i64 z, .slice (some ⟨pb, 0, none⟩) 2 2]), (w.heap.size + 1, 28, #[.int .i64 2, .int .i64 2, .int .i64 wh, .slice va vn vc])]) := Lib.hid (by
              have h5 := hI.out.step (o := .cells #[.int .i64 M, .int .i64 N, .int .i64 pr] 178) hown hgrow (by rcases hlie with e | e; exact .inl e; exact .inr (by rw [e]; simp))
              rw [four_succ, ← List.append_assoc, HOL.out]
              exact h5)
            clear hown hgrow hlie hI OQ
            go_wp2_with fail
            refine ⟨⟨3, 3, .inr (.inr (.inr (.inl ⟨rfl, rfl⟩))), rfl, ⟨_, rfl⟩, ⟨_, rfl⟩, I9⟩, by decide⟩
          · obtain ⟨o0, o1, o2⟩ := three_cells' (hI.out.kept (O1, 178, #[.int .i64 P0, .int .i64 P1, .int .i64 P2]) (by simp)).1
            obtain ⟨t0, t1, t2⟩ := three_cells' (hI.out.kept (O2, 178, #[.int .i64 Q0, .int .i64 Q1, .int .i64 Q2]) (by simp)).1
            obtain ⟨s0, s1, s2⟩ := three_cells' (hI.out.kept (O3, 178, #[.int .i64 Q0, .int .i64 Q1, .int .i64 Q2]) (by simp)).1
            have jc := ic3 r0 r1 r2 r3
            obtain ⟨M, hM⟩ : ∃ M : Int, ((p.1 ^^^ 1 : Nat) : Int) = M := ⟨_, rfl⟩
            obtain ⟨N, hN⟩ : ∃ N : Int, ((q.2.1 ^^^ 1 : Nat) : Int) = N := ⟨_, rfl⟩
            have xm : bits .xor .i64 P0 1 = M := by rw [← HP0.out, ← hM]; exact xor_nat HFQ.out.1.1 (by decide)
            have xn : bits .xor .i64 Q1 1 = N := by rw [← HQ1.out, ← hN]; exact xor_nat HFQ.out.2.2 (by decide)
            have hb := HRB.out 3 (by decide)
            rw [HR3.out] at hb
            have hpq : 0 ≤ P2 * Q2 ∧ P2 * Q2 ≤ 1000 * 1000 := ⟨Int.mul_nonneg HPB.out.1.1 HPB.out.2.1, Int.mul_le_mul HPB.out.1.2 HPB.out.2.2 HPB.out.2.1 (by decide)⟩
            obtain ⟨pq, hpq2⟩ : ∃ pq, P2 * Q2 = pq := ⟨_, rfl⟩
            rw [hpq2] at hpq
            have hpr : 0 ≤ pq * r3 ∧ pq * r3 ≤ 1000 * 1000 * 1000 := ⟨Int.mul_nonneg hpq.1 hb.1, Int.mul_le_mul hpq.2 hb.2 hb.1 (by decide)⟩
            obtain ⟨pr, hpr2⟩ : ∃ pr, pq * r3 = pr := ⟨_, rfl⟩
            rw [hpr2] at hpr
            have wa1 : wrap64 (P2 * Q2) = pq := by rw [hpq2]; exact IntWalk.wrap64_in _ (by omega)
            have wa2 : IntKind.i64.wrap (P2 * Q2) = pq := by rw [hpq2]; exact IntWalk.i64_in _ (by omega)
            have wb1 : wrap64 (pq * r3) = pr := by rw [hpr2]; exact IntWalk.wrap64_in _ (by omega)
            have wb2 : IntKind.i64.wrap (pq * r3) = pr := by rw [hpr2]; exact IntWalk.i64_in _ (by omega)
            have HOC : Hid ([.int .i64 M, .int .i64 N, .int .i64 pr] = oc (one 1 (R xss 1) p q 3)) := Lib.hid (by
              rw [← hM, ← hN, ← hpr2, ← hpq2, ← HP2.out, ← HQ2.out, ← HR3.out]; rfl)
            have hln := HLEN.out 3 (by decide)
            obtain ⟨OL, hOL⟩ : ∃ OL, comb 1 (R xss 1) (L1.take k) L2 ++ row 1 (R xss 1) p (L2.take j) ++ four 1 (R xss 1) p q 3 = OL := ⟨_, rfl⟩
            rw [hOL] at hI hln
            have HOL := Lib.hid hOL
            have HLN := Lib.hid hln
            clear hOL hln
            have OQ : Hid ((wz.alloc (.cells #[.int .i64 M, .int .i64 N, .int .i64 pr] 178)).ownsRow w.heap.size 178 3 (.slice vz7 zl7 zc7) OL.length (ocs OL)) := Lib.hid (app.owns_below hI.out.owns (below_al (Below.refl _ _) _))
            have hsz := hI.out.below.size
            clear hM hN hpq hpq2 hpr hpr2 hb haz
            go_wp2_with (at_builtin; go_must (refine boxl.app_lies rfl (.tmp 73) (.tmp 92) 142 rfl w.heap.size 178 i0 (.agg #[.int .i64 0, .int .i64 0, .int .i64 0]) 3 24 Try.underlying142 hi hz0 hz1 hz2 rfl (by decide) _ _ _ rfl OQ.out ⟨wz.heap.size, 0, none⟩ 1 1 [.int .i64 M, .int .i64 N, .int .i64 pr] rfl rfl ?c1_3 ?c2_3 ?c3_3 ?c4_3 ?c5_3 (by decide) ?_))
            try (case c1_3 => first | exact three_at _ _ _ _ _ | (intro q u hq; have h5 := three_at wz (.int .i64 M) (.int .i64 N) (.int .i64 pr) 178 q u hq; rw [opn.add_none] at h5; simpa using h5))
            case c2_3 => first | (intro u hu; simp at hu; rcases hu with rfl | rfl | rfl <;> rfl) | exact ⟨rfl, rfl, rfl⟩
            case c3_3 => have h6 := HLN.out; unfold maxLen; omega
            case c4_3 => have h6 := HLN.out; omega
            try (case c5_3 => first | omega | (simp; omega))
            intro v9 w9 hown hgrow hlie
            rw [HOC.out] at hown
            have I9 : Hid (Inv w w9 v9 (comb 1 (R xss 1) (L1.take k) L2 ++ row 1 (R xss 1) p (L2.take j) ++ four 1 (R xss 1) p q 4) [(O3, 178, #[.int .i64 Q0, .int .i64 Q1, .int .i64 Q2]), (O2, 178, #[.int .i64 Q0, .int .i64 Q1, .int .i64 Q2]), (g2, 178, cur2), (O1, 178, #[.int .i64 P0, .int .i64 P1, .int .i64 P2]), (g1, 178, cur1), (w.heap.size, 145, #[.int .i64 z, .slice (some ⟨pb, 0, none⟩) 2 2]), (w.heap.size + 1, 28, #[.int .i64 2, .int .i64 2, .int .i64 wh, .slice va vn vc])]) := Lib.hid (by
              have h5 := hI.out.step (o := .cells #[.int .i64 M, .int .i64 N, .int .i64 pr] 178) hown hgrow (by rcases hlie with e | e; exact .inl e; exact .inr (by rw [e]; simp))
              rw [four_succ, ← List.append_assoc, HOL.out]
              exact h5)
            clear hown hgrow hlie hI OQ
            go_wp2_with fail
            refine ⟨⟨4, 4, .inr (.inr (.inr (.inr ⟨rfl, rfl⟩))), rfl, ⟨_, rfl⟩, ⟨_, rfl⟩, I9⟩, by decide⟩
          · have HD : Hid (Inv w wz (.slice vz7 zl7 zc7) (comb 1 (R xss 1) (L1.take k) L2 ++ row 1 (R xss 1) p (L2.take (j + 1))) [(g2, 178, cur2), (O1, 178, #[.int .i64 P0, .int .i64 P1, .int .i64 P2]), (g1, 178, cur1), (w.heap.size, 145, #[.int .i64 z, .slice (some ⟨pb, 0, none⟩) 2 2]), (w.heap.size + 1, 28, #[.int .i64 2, .int .i64 2, .int .i64 wh, .slice va vn vc])]) := Lib.hid (by
              rw [HTR.out, ← List.append_assoc]
              exact hI.out.less (fun x hx => List.mem_cons_of_mem _ (List.mem_cons_of_mem _ hx)))
            clear haz hI
            go_wp2_with fail
            go_roundw
            case rel => exact ⟨j + 1, by have := HLJ.out; omega, by go_num, ⟨_, rfl⟩, ⟨_, rfl⟩, ⟨_, rfl⟩, ⟨_, rfl⟩, ⟨_, rfl⟩, HD⟩
            case measure => have := HLJ.out; simp [intOf]; omega
        · have hjz : ¬ (j : Int) < (L2.length : Int) := by omega
          obtain rfl : j = L2.length := by omega
          have HD : Hid (Inv w wj (.slice vb7 wl7 wc7) (comb 1 (R xss 1) (L1.take (k + 1)) L2) [(g1, 178, cur1), (w.heap.size, 145, #[.int .i64 z, .slice (some ⟨pb, 0, none⟩) 2 2]), (w.heap.size + 1, 28, #[.int .i64 2, .int .i64 2, .int .i64 wh, .slice va vn vc])]) := Lib.hid (by
            rw [HTC.out]
            have h5 := hI.out
            rw [List.take_length] at h5
            exact h5.less (fun x hx => List.mem_cons_of_mem _ (List.mem_cons_of_mem _ hx)))
          clear hI
          go_wp2_with fail
          go_roundw
          case rel => exact ⟨k + 1, by have := HLT.out; omega, by go_num, ⟨_, rfl⟩, ⟨_, rfl⟩, ⟨_, rfl⟩, ⟨_, rfl⟩, ⟨_, rfl⟩, ⟨_, rfl⟩, HD⟩
          case measure => have := HLT.out; simp [intOf]; omega
    · have hkz : ¬ (k : Int) < (L1.length : Int) := by omega
      obtain rfl : k = L1.length := by omega
      have h5 := hI.out.owns
      rw [List.take_length] at h5
      obtain ⟨gg, cur, hli, hge⟩ := lies_of_owns h5 (by rw [len_comb]; exact Nat.mul_pos HL1.out.1 (by have := HL2.out.1; omega))
      have HLI := Lib.hid hli
      clear h5 hli
      go_wp2_with fail
      go_ret
      exact ⟨_, rfl, gg, cur, HLI.out, hge, hI.out.below⟩

end Go.Proofs.Ytnjaocgciokpaab.ocs
