/- BestReply of the model. -/
import Derived.Test.YtkajebhagkbcaacGbri
import Derived.Test.YtkajebhagkbcaacLast
namespace Go.Proofs.Ytkajebhagkbcaac.gbr
open Go.RowKit Go.Deep Go.Proofs.Ytkajebhagkbcaac.base
open Go.Proofs.Ytkajebhagkbcaac.ints (infoInt)
open Go.Proofs.Ytkajebhagkbcaac.rws (total)
open Go.Proofs.Ytkajebhagkbcaac.val (okSizes)
open Go.Proofs.Ytkajebhagkbcaac.gval (okGame gameB gameB_yes gameB_no)
open Go.Proofs.Ytkajebhagkbcaac.play (within withinB withinB_yes withinB_no)
open Go.Proofs.Ytkajebhagkbcaac.gscore (score at_cast)
open Go.Proofs.Ytkajebhagkbcaac.gbm (stp reply col rep)
open Go.Proofs.Ytkajebhagkbcaac.gwon (won won_bd)
open Go.Proofs.Ytkajebhagkbcaac.worth (cum)

/-- the sum of the first n pairs of a question of the second player -/
def pc (Y : Nat) (ws : List Int) (xss : List (List Int)) (f : List Int) (y : Nat) (b : Int) (n : Nat) : Int := cum (fun x => won ws xss (x * Y + y) (f.getD x 0) b) n
theorem pc_col (X Y : Nat) (ws : List Int) (xss : List (List Int)) (f : List Int) (y : Nat) (b : Int) : pc Y ws xss f y b X = col X Y ws xss f y b := rfl
theorem pc_succ (Y : Nat) (ws : List Int) (xss : List (List Int)) (f : List Int) (y : Nat) (b : Int) (n : Nat) : pc Y ws xss f y b (n + 1) = pc Y ws xss f y b n + won ws xss (n * Y + y) (f.getD n 0) b := rfl
theorem pc_bd {x y : Int} {ws : List Int} {xss : List (List Int)} (h : okGame x y ws xss) (Y : Nat) (f : List Int) (q : Nat) (b : Int) (n : Nat) : 0 ≤ pc Y ws xss f q b n ∧ pc Y ws xss f q b n ≤ 99 * n := by
  induction n with
  | zero => exact ⟨Int.le_refl _, Int.le_refl _⟩
  | succ n ih =>
    have := won_bd h (n * Y + q) (f.getD n 0) b
    rw [pc_succ]
    omega
theorem two_cells {w : World} {b : Nat} {t : TypeId} {c0 c1 : Value} (h : Blk w b t #[c0, c1]) : w.cell? ⟨b, 0, none⟩ = some c0 ∧ w.cell? ⟨b, 1, none⟩ = some c1 ∧ b < w.heap.size := by
  have hl := h.lt
  unfold Blk at h
  refine ⟨?_, ?_, hl⟩ <;> simp only [World.cell?, h] <;> rfl


set_option maxRecDepth 100000 in
set_option maxHeartbeats 8000000 in
theorem spec_any (x y : Int) (v : Value) (ws : List Int) (u : Value) (xss : List (List Int)) (fv : Value) (f : List Int) (w : World) (h : game.GV w v ws u xss) (hp : Ints w fv f) (hn : ws.length ≤ 1048576) (hm : total xss ≤ 1048576) :
    Calls Try.prog 33 #[.agg #[.int .i64 x, .int .i64 y, v, u], fv] w fun e w' => ∃ u', e = .returned (.tuple #[u', .int .i64 (res x y ws xss f).2.1, .bool (res x y ws xss f).2.2]) ∧ Ints w' u' (res x y ws xss f).1 ∧ Below w.heap.size w w' := by
  obtain ⟨i0, hi, hz0, hz1, hz2⟩ := info_parts infoInt
  obtain ⟨va, vn, vc, ua, un, uc, rfl, rfl⟩ := h.shape
  have H := Lib.hid h
  have HP := Lib.hid hp
  have B0 := Lib.hid (below_al (below_al (Below.refl w.heap.size w) (.cells #[.int .i64 x, .int .i64 y, .slice va vn vc, .slice ua un uc] 28)) (.cells #[] 3))
  have K0 := Lib.hid ((Blk.new w 28 #[.int .i64 x, .int .i64 y, .slice va vn vc, .slice ua un uc]).alloc (.cells #[] 3))
  have HC := Lib.hid (gval.spec_any x y _ ws _ xss _ (h.below B0.out) hn hm)
  have HBI := Lib.hid (fun (W : World) (hW : Below w.heap.size w W) => play.spec_bits _ f x W (hp.below hW))
  by_cases hok : okGame x y ws xss
  · have HE := Lib.hid (gameB_yes hok)
    by_cases hw : within x 0 1 f
    · have HE2 := Lib.hid (withinB_yes hw)
      rw [res_yes ⟨hok, hw⟩]
      obtain ⟨X, rfl⟩ : ∃ X : Nat, x = X := ⟨x.toNat, by have := hok.1.1; omega⟩
      obtain ⟨Y, rfl⟩ : ∃ Y : Nat, y = Y := ⟨y.toNat, by have := hok.1.2; omega⟩
      simp only [Int.toNat_natCast]
      have hX1 := hok.1.1.1
      have hX2 := hok.1.1.2
      have hY2 := hok.1.2.2
      have hlf : f.length = X := by have := hw.1; omega
      obtain ⟨FA, fb, fo, fcap, rfl, hfcap, hfmax, hFA, hfc⟩ := hp.form
      obtain rfl := hFA (by omega)
      have HFC : Hid (∀ k, k < X → w.cell? ⟨fb, fo + k, none⟩ = some (.int .i64 (f.getD k 0)) ∧ (f.getD k 0 = 0 ∨ f.getD k 0 = 1)) := Lib.hid (fun k hk => by
        have h1 := hfc k (by omega)
        have h2 := hw.2 k (by omega)
        have e : f.getD k 0 = f[k]'(by omega) := by rw [List.getD_eq_getElem?_getD, List.getElem?_eq_getElem (by omega)]; rfl
        rw [e]
        exact ⟨h1, by omega⟩)
      have HLF : Hid (f.length = X) := Lib.hid hlf
      have HW : Hid (∀ (W : World) (a c : Nat) (s t : Int), Below w.heap.size w W → a < X → c < Y → (s = 0 ∨ s = 1) → (t = 0 ∨ t = 1) → Calls Try.prog 63 #[.agg #[.int .i64 (X : Int), .int .i64 (Y : Int), .slice va vn vc, .slice ua un uc], .int .i64 (a : Int), .int .i64 (c : Int), .int .i64 s, .int .i64 t] W fun e w' => e = .returned (.int .i64 (won ws xss (a * Y + c) s t)) ∧ Below W.heap.size W w') := Lib.hid (fun W a c s t hW ha hc hs ht => by
        have := gwon.l4won X Y a c s t _ ws _ xss W (H.out.below hW) hok (by omega) (by omega) (by omega) (by omega) hs ht
        rw [at_cast] at this
        exact this)
      have HPB := Lib.hid (fun q b n => pc_bd hok Y f q b n)
      have HWB := Lib.hid (fun t a b => won_bd hok t a b)
      have HSC : Hid (score X Y ws xss (stp X Y ws xss f Y) = cum (fun y => col X Y ws xss f y (rep X Y ws xss f y)) Y) := Lib.hid (gbm.score_stp X Y ws xss hlf)
      clear h hp hok hw hfc hFA hfcap hfmax hlf
      go_enter Try.func33, Try.ntmps33
      go_wp2_with fail
      refine HC.out.mono ?_
      rintro e w1 ⟨rfl, hb⟩
      rw [HE.out]
      have B1 := Lib.hid (below_tr B0.out hb)
      have K1 := Lib.hid (K0.out.below hb)
      have O1 : Hid (w1.ownsRow (w.heap.size + 1) 3 1 (.slice (some ⟨w.heap.size + 1, 0, none⟩) 0 0) 0 (i64s ((List.range 0).map (rep X Y ws xss f)))) := Lib.hid (by
        have := World.ownsRow_made (base := w.heap.size + 1) (e := 3) (size := 1) (w.alloc (.cells #[.int .i64 (X : Int), .int .i64 (Y : Int), .slice va vn vc, .slice ua un uc] 28)) #[] 0 (by simp) (Nat.zero_le _) rfl
        have := app.owns_below this hb
        simpa [i64s] using this)
      obtain ⟨c0, c1, c2, c3, c4⟩ := four_cells K1.out
      clear hb HC K0 B0
      go_wp2_with fail
      refine (HBI.out _ B1.out).mono ?_
      rintro e w2 ⟨rfl, rfl⟩
      rw [HE2.out]
      go_wp2_with fail
      clear c0 c1 c2 c3 c4
      go_loopw [7, 8, 9] (fun out s i wr => ∃ a : Nat, ∃ q : Int, a ≤ Y ∧ i = .int .i64 a ∧ s = .int .i64 q ∧ 0 ≤ q ∧ q ≤ 297 * a ∧ Hid (q = cum (fun y => col X Y ws xss f y (rep X Y ws xss f y)) a) ∧ Hid (wr.ownsRow (w.heap.size + 1) 3 1 out a (i64s ((List.range a).map (rep X Y ws xss f)))) ∧ Hid (Below w.heap.size w wr) ∧ Hid (Blk wr w.heap.size 28 #[.int .i64 (X : Int), .int .i64 (Y : Int), .slice va vn vc, .slice ua un uc])) (fun _ _ i _ => Y - (intOf i).toNat)
      case atStart => exact ⟨0, 0, Nat.zero_le _, rfl, rfl, by omega, by omega, Lib.hid rfl, O1, B1, K1⟩
      case round =>
        obtain ⟨a, q, ha, rfl, rfl, hq0, hq1, hQ, hO, hB, hK⟩ := hrel
        clear O1 B1 K1
        obtain ⟨wo, rfl⟩ : ∃ wo : World, wo = wr := ⟨_, rfl⟩
        obtain ⟨c0, c1, c2, c3, c4⟩ := four_cells hK.out
        by_cases hlt : a < Y
        · have hkz : (a : Int) < (Y : Int) := by omega
          have hosz : w.heap.size + 1 ≤ wo.heap.size := c4
          have S1 : Hid (Blk (wo.alloc (.cells #[.int .i64 0, .int .i64 0] 3)) wo.heap.size 3 #[.int .i64 (pc Y ws xss f a 0 0), .int .i64 (pc Y ws xss f a 1 0)]) := Lib.hid (Blk.new wo 3 #[.int .i64 0, .int .i64 0])
          have O1 := Lib.hid (hO.out.alloc (.cells #[.int .i64 0, .int .i64 0] 3))
          have B1 := Lib.hid (below_al hB.out (.cells #[.int .i64 0, .int .i64 0] 3))
          have K1 := Lib.hid (hK.out.alloc (.cells #[.int .i64 0, .int .i64 0] 3))
          have HNB : Hid (∀ j, u7.ownBlock = some j → j ≠ wo.heap.size) := Lib.hid (fun j hj => by have := (hO.out.lt j hj).2; omega)
          have HLA := Lib.hid hlt
          go_wp2_with fail
          clear c0 c1 c2 c3 c4 hO hB hK
          generalize wo.heap.size = g at *
          go_loopw [11, 12] (fun i z wi => ∃ n : Nat, n ≤ X ∧ i = .int .i64 n ∧ (∃ z', z = z') ∧ Hid (Blk wi g 3 #[.int .i64 (pc Y ws xss f a 0 n), .int .i64 (pc Y ws xss f a 1 n)]) ∧ Hid (wi.ownsRow (w.heap.size + 1) 3 1 u7 a (i64s ((List.range a).map (rep X Y ws xss f)))) ∧ Hid (Below w.heap.size w wi) ∧ Hid (Blk wi w.heap.size 28 #[.int .i64 (X : Int), .int .i64 (Y : Int), .slice va vn vc, .slice ua un uc])) (fun i _ _ => X - (intOf i).toNat)
          case atStart => exact ⟨0, Nat.zero_le _, rfl, ⟨_, rfl⟩, S1, O1, B1, K1⟩
          case round =>
            obtain ⟨n, hn, rfl, ⟨z', rfl⟩, hS, hO, hB, hK⟩ := hrel
            clear S1 O1 B1 K1
            obtain ⟨wi, rfl⟩ : ∃ wi : World, wi = wr := ⟨_, rfl⟩
            obtain ⟨c0, c1, c2, c3, c4⟩ := four_cells hK.out
            by_cases hln : n < X
            · have hkn : (n : Int) < (X : Int) := by omega
              have HLN := Lib.hid hln
              obtain ⟨f1, t1⟩ := HFC.out n hln
              have HF1 := Lib.hid f1
              have b0 := HPB.out a 0 n
              have b1 := HPB.out a 1 n
              have v0 := HWB.out (n * Y + a) (f.getD n 0) 0
              have v1 := HWB.out (n * Y + a) (f.getD n 0) 1
              have hs0 := pc_succ Y ws xss f a 0 n
              have hs1 := pc_succ Y ws xss f a 1 n
              have hfl : (n : Int) < (f.length : Int) := by have := HLF.out; omega
              obtain ⟨r0, hr0⟩ : ∃ r0, won ws xss (n * Y + a) (f.getD n 0) 0 = r0 := ⟨_, rfl⟩
              obtain ⟨r1, hr1⟩ : ∃ r1, won ws xss (n * Y + a) (f.getD n 0) 1 = r1 := ⟨_, rfl⟩
              rw [hr0] at hs0 v0
              rw [hr1] at hs1 v1
              generalize f.getD n 0 = fz at *
              generalize pc Y ws xss f a 0 n = p0 at *
              generalize pc Y ws xss f a 1 n = p1 at *
              have HR0 := Lib.hid hr0
              have HR1 := Lib.hid hr1
              have HS0 := Lib.hid hs0
              have HS1 := Lib.hid hs1
              have HFZ := Lib.hid t1
              have m0 : IntKind.i64.wrap (p0 + r0) = p0 + r0 := IntWalk.i64_in _ (by omega)
              have m1 : IntKind.i64.wrap (p1 + r1) = p1 + r1 := IntWalk.i64_in _ (by omega)
              have S0 : Hid (Blk wi g 3 #[.int .i64 (if 0 < 0 then p0 + r0 else p0), .int .i64 (if 1 < 0 then p1 + r1 else p1)]) := Lib.hid (by simpa using hS.out)
              clear hr0 hr1 hs0 hs1 t1 f1 b0 b1 v0 v1
              go_wp2_with fail
              clear c0 c1 c2 c3 c4 hS
              go_loopw [12] (fun j wj => ∃ m : Nat, m ≤ 2 ∧ j = .int .i64 m ∧ Hid (Blk wj g 3 #[(.int .i64 (if 0 < m then p0 + r0 else p0)), (.int .i64 (if 1 < m then p1 + r1 else p1))]) ∧ Hid (wj.ownsRow (w.heap.size + 1) 3 1 u7 a (i64s ((List.range a).map (rep X Y ws xss f)))) ∧ Hid (Below w.heap.size w wj) ∧ Hid (Blk wj w.heap.size 28 #[.int .i64 (X : Int), .int .i64 (Y : Int), .slice va vn vc, .slice ua un uc])) (fun j _ => 2 - (intOf j).toNat)
              case atStart => exact ⟨0, Nat.zero_le _, rfl, S0, hO, hB, hK⟩
              case round =>
                clear S0 hO hB hK
                obtain ⟨m, hm, rfl, hS, hO, hB, hK⟩ := hrel
                obtain ⟨wj, rfl⟩ : ∃ wj : World, wj = wr := ⟨_, rfl⟩
                obtain rfl | rfl | rfl : m = 0 ∨ m = 1 ∨ m = 2 := by omega
                · have hB2 : Blk wj g 3 #[.int .i64 p0, .int .i64 p1] := by simpa using hS.out
                  have HBI := Lib.hid hB2
                  obtain ⟨s0, s1, s2⟩ := two_cells hB2
                  obtain ⟨c0, c1, c2, c3, c4⟩ := four_cells hK.out
                  have f1 := below_cell hB.out _ _ HF1.out
                  have HCA : Hid (∀ W, Below wj.heap.size wj W → Calls Try.prog 63 #[.agg #[.int .i64 (X : Int), .int .i64 (Y : Int), .slice va vn vc, .slice ua un uc], .int .i64 (n : Int), .int .i64 (a : Int), .int .i64 fz, .int .i64 0] W fun e w' => e = .returned (.int .i64 r0) ∧ Below W.heap.size W w') := Lib.hid (fun W hW => by
                    have := HW.out W n a fz 0 (below_tr hB.out hW) HLN.out HLA.out HFZ.out (by omega)
                    rw [HR0.out] at this
                    exact this)
                  clear hB2
                  rw [show ((0 : Nat) : Int) = 0 from rfl]
                  go_wp2_with fail
                  refine last.start (S := (fun w' => w'.cell? ⟨w.heap.size, 0, none⟩ = some (.int .i64 (X : Int)) ∧ w'.cell? ⟨w.heap.size, 1, none⟩ = some (.int .i64 (Y : Int)) ∧ w'.cell? ⟨w.heap.size, 2, none⟩ = some (.slice va vn vc) ∧ w'.cell? ⟨w.heap.size, 3, none⟩ = some (.slice ua un uc) ∧ w'.cell? ⟨fb, fo + n, none⟩ = some (.int .i64 fz) ∧ w'.cell? ⟨g, 0, none⟩ = some (.int .i64 p0) ∧ Below wj.heap.size wj w')) (L := 17) (by kernel_rfl) ?_
                  have hHeld : (fun w' => w'.cell? ⟨w.heap.size, 0, none⟩ = some (.int .i64 (X : Int)) ∧ w'.cell? ⟨w.heap.size, 1, none⟩ = some (.int .i64 (Y : Int)) ∧ w'.cell? ⟨w.heap.size, 2, none⟩ = some (.slice va vn vc) ∧ w'.cell? ⟨w.heap.size, 3, none⟩ = some (.slice ua un uc) ∧ w'.cell? ⟨fb, fo + n, none⟩ = some (.int .i64 fz) ∧ w'.cell? ⟨g, 0, none⟩ = some (.int .i64 p0) ∧ Below wj.heap.size wj w') wj.drew := gscore.held6 c0 c1 c2 c3 f1 s0 (below_dr (Below.refl _ _))
                  refine last.take (i := 0) (oi := { dst := some 44, op := Op.move (Operand.tmp 10), type := 22, pos := "l4_games.go:108", after := #[], guard := none }) (v := ?v0m0) rfl (by kernel_rfl) (by kernel_rfl) (by kernel_rfl) (by kernel_rfl) (by decide) (fun _ _ _ h => h) (Or.inl ⟨by rfl, ?y0m0⟩) hHeld ?r0m0
                  case y0m0 => (intro w hSw; (try dsimp only at hSw); go_simp; try with_reducible rfl)
                  try simp only [Act.put, List.setIfInBounds_toArray, List.set_cons_zero, List.set_cons_succ]
                  refine last.take (i := 1) (oi := { dst := some 45, op := Op.move (Operand.tmp 12), type := 3, pos := "l4_games.go:108", after := #[], guard := none }) (v := ?v1m0) rfl (by kernel_rfl) (by kernel_rfl) (by kernel_rfl) (by kernel_rfl) (by decide) (fun _ _ _ h => h) (Or.inl ⟨by rfl, ?y1m0⟩) hHeld ?r1m0
                  case y1m0 => (intro w hSw; (try dsimp only at hSw); go_simp; try with_reducible rfl)
                  try simp only [Act.put, List.setIfInBounds_toArray, List.set_cons_zero, List.set_cons_succ]
                  refine last.take (i := 2) (oi := { dst := some 46, op := Op.move (Operand.tmp 10), type := 22, pos := "l4_games.go:108", after := #[], guard := none }) (v := ?v2m0) rfl (by kernel_rfl) (by kernel_rfl) (by kernel_rfl) (by kernel_rfl) (by decide) (fun _ _ _ h => h) (Or.inl ⟨by rfl, ?y2m0⟩) hHeld ?r2m0
                  case y2m0 => (intro w hSw; (try dsimp only at hSw); go_simp; try with_reducible rfl)
                  try simp only [Act.put, List.setIfInBounds_toArray, List.set_cons_zero, List.set_cons_succ]
                  refine last.take (i := 3) (oi := { dst := some 47, op := Op.move (Operand.tmp 12), type := 3, pos := "l4_games.go:108", after := #[], guard := none }) (v := ?v3m0) rfl (by kernel_rfl) (by kernel_rfl) (by kernel_rfl) (by kernel_rfl) (by decide) (fun _ _ _ h => h) (Or.inl ⟨by rfl, ?y3m0⟩) hHeld ?r3m0
                  case y3m0 => (intro w hSw; (try dsimp only at hSw); go_simp; try with_reducible rfl)
                  try simp only [Act.put, List.setIfInBounds_toArray, List.set_cons_zero, List.set_cons_succ]
                  refine last.take (i := 4) (oi := { dst := some 48, op := Op.indexAddr 22 (Operand.tmp 46) (Operand.tmp 47), type := 0, pos := "l4_games.go:108", after := #[{ on := 2, ground := Ground.data }, { on := 3, ground := Ground.data }], guard := none }) (v := ?v4m0) rfl (by kernel_rfl) (by kernel_rfl) (by kernel_rfl) (by kernel_rfl) (by decide) (fun _ _ _ h => h) (Or.inl ⟨by rfl, ?y4m0⟩) hHeld ?r4m0
                  case y4m0 => (intro w hSw; (try dsimp only at hSw); go_simp; try with_reducible rfl)
                  try simp only [Act.put, List.setIfInBounds_toArray, List.set_cons_zero, List.set_cons_succ]
                  refine last.take (i := 5) (oi := { dst := some 49, op := Op.load 3 (Operand.tmp 48), type := 3, pos := "l4_games.go:108", after := #[{ on := 4, ground := Ground.data }], guard := none }) (v := ?v5m0) rfl (by kernel_rfl) (by kernel_rfl) (by kernel_rfl) (by kernel_rfl) (by decide) (fun _ _ _ h => h) (Or.inl ⟨by rfl, ?y5m0⟩) hHeld ?r5m0
                  case y5m0 => (intro w hSw; (try dsimp only at hSw); go_simp; try with_reducible rfl)
                  try simp only [Act.put, List.setIfInBounds_toArray, List.set_cons_zero, List.set_cons_succ]
                  refine last.take (i := 6) (oi := { dst := some 50, op := Op.load 28 (Operand.tmp 2), type := 28, pos := "l4_games.go:108", after := #[], guard := none }) (v := ?v6m0) rfl (by kernel_rfl) (by kernel_rfl) (by kernel_rfl) (by kernel_rfl) (by decide) (fun _ _ _ h => h) (Or.inl ⟨by rfl, ?y6m0⟩) hHeld ?r6m0
                  case y6m0 => (intro w hSw; (try dsimp only at hSw); go_simp; try with_reducible rfl)
                  try simp only [Act.put, List.setIfInBounds_toArray, List.set_cons_zero, List.set_cons_succ]
                  refine last.take (i := 7) (oi := { dst := some 51, op := Op.move (Operand.tmp 11), type := 3, pos := "l4_games.go:108", after := #[], guard := none }) (v := ?v7m0) rfl (by kernel_rfl) (by kernel_rfl) (by kernel_rfl) (by kernel_rfl) (by decide) (fun _ _ _ h => h) (Or.inl ⟨by rfl, ?y7m0⟩) hHeld ?r7m0
                  case y7m0 => (intro w hSw; (try dsimp only at hSw); go_simp; try with_reducible rfl)
                  try simp only [Act.put, List.setIfInBounds_toArray, List.set_cons_zero, List.set_cons_succ]
                  refine last.take (i := 8) (oi := { dst := some 52, op := Op.move (Operand.tmp 9), type := 3, pos := "l4_games.go:108", after := #[], guard := none }) (v := ?v8m0) rfl (by kernel_rfl) (by kernel_rfl) (by kernel_rfl) (by kernel_rfl) (by decide) (fun _ _ _ h => h) (Or.inl ⟨by rfl, ?y8m0⟩) hHeld ?r8m0
                  case y8m0 => (intro w hSw; (try dsimp only at hSw); go_simp; try with_reducible rfl)
                  try simp only [Act.put, List.setIfInBounds_toArray, List.set_cons_zero, List.set_cons_succ]
                  refine last.take (i := 9) (oi := { dst := some 53, op := Op.move (Operand.tmp 1), type := 22, pos := "l4_games.go:108", after := #[], guard := none }) (v := ?v9m0) rfl (by kernel_rfl) (by kernel_rfl) (by kernel_rfl) (by kernel_rfl) (by decide) (fun _ _ _ h => h) (Or.inl ⟨by rfl, ?y9m0⟩) hHeld ?r9m0
                  case y9m0 => (intro w hSw; (try dsimp only at hSw); go_simp; try with_reducible rfl)
                  try simp only [Act.put, List.setIfInBounds_toArray, List.set_cons_zero, List.set_cons_succ]
                  refine last.take (i := 10) (oi := { dst := some 54, op := Op.move (Operand.tmp 11), type := 3, pos := "l4_games.go:108", after := #[], guard := none }) (v := ?v10m0) rfl (by kernel_rfl) (by kernel_rfl) (by kernel_rfl) (by kernel_rfl) (by decide) (fun _ _ _ h => h) (Or.inl ⟨by rfl, ?y10m0⟩) hHeld ?r10m0
                  case y10m0 => (intro w hSw; (try dsimp only at hSw); go_simp; try with_reducible rfl)
                  try simp only [Act.put, List.setIfInBounds_toArray, List.set_cons_zero, List.set_cons_succ]
                  refine last.take (i := 11) (oi := { dst := some 55, op := Op.indexAddr 22 (Operand.tmp 53) (Operand.tmp 54), type := 0, pos := "l4_games.go:108", after := #[{ on := 9, ground := Ground.data }, { on := 10, ground := Ground.data }], guard := none }) (v := ?v11m0) rfl (by kernel_rfl) (by kernel_rfl) (by kernel_rfl) (by kernel_rfl) (by decide) (fun _ _ _ h => h) (Or.inl ⟨by rfl, ?y11m0⟩) hHeld ?r11m0
                  case y11m0 => (intro w hSw; (try dsimp only at hSw); go_simp; try with_reducible rfl)
                  try simp only [Act.put, List.setIfInBounds_toArray, List.set_cons_zero, List.set_cons_succ]
                  refine last.take (i := 12) (oi := { dst := some 56, op := Op.load 3 (Operand.tmp 55), type := 3, pos := "l4_games.go:108", after := #[{ on := 11, ground := Ground.data }], guard := none }) (v := ?v12m0) rfl (by kernel_rfl) (by kernel_rfl) (by kernel_rfl) (by kernel_rfl) (by decide) (fun _ _ _ h => h) (Or.inl ⟨by rfl, ?y12m0⟩) hHeld ?r12m0
                  case y12m0 => (intro w hSw; (try dsimp only at hSw); go_simp; try with_reducible rfl)
                  try simp only [Act.put, List.setIfInBounds_toArray, List.set_cons_zero, List.set_cons_succ]
                  refine last.take (i := 13) (oi := { dst := some 57, op := Op.move (Operand.tmp 12), type := 3, pos := "l4_games.go:108", after := #[], guard := none }) (v := ?v13m0) rfl (by kernel_rfl) (by kernel_rfl) (by kernel_rfl) (by kernel_rfl) (by decide) (fun _ _ _ h => h) (Or.inl ⟨by rfl, ?y13m0⟩) hHeld ?r13m0
                  case y13m0 => (intro w hSw; (try dsimp only at hSw); go_simp; try with_reducible rfl)
                  try simp only [Act.put, List.setIfInBounds_toArray, List.set_cons_zero, List.set_cons_succ]
                  refine last.one (i := 14) (o := { dst := some 58, op := Op.call { callee := Callee.value (Operand.func 63), args := #[Operand.tmp 50, Operand.tmp 51, Operand.tmp 52, Operand.tmp 56, Operand.tmp 57], argTypes := #[28, 3, 3, 3, 3] }, type := 3, pos := "l4_games.go:108", after := #[{ on := 6, ground := Ground.data }, { on := 7, ground := Ground.data }, { on := 8, ground := Ground.data }, { on := 12, ground := Ground.data }, { on := 13, ground := Ground.data }], guard := none }) (by kernel_rfl) rfl (fun K hK => ?_)
                  go_simp
                  (go_at_call 63; (with_reducible refine (HCA.out _ (below_dr (Below.refl _ _))).mono ?_); rintro e wq ⟨rfl, hq⟩)
                  have ht : Below wj.heap.size wj wq := below_tr (below_dr (Below.refl _ _)) hq
                  have hBq := HBI.out.below ht
                  have rf : ∀ k, wq.frozen? ⟨g, k, none⟩ = false := fun k => Joins.unfrozen_of_block hBq k
                  obtain ⟨d0, d1, d2⟩ := two_cells hBq
                  have HT := Lib.hid ht
                  have HBQ := Lib.hid hBq
                  refine hK.out _ _ ?s14m0 (fun hHeld => ?_)
                  case s14m0 => (try dsimp only); exact gscore.held6 c0 c1 c2 c3 f1 s0 ht
                  clear hK K
                  try simp only [Act.put, List.setIfInBounds_toArray, List.set_cons_zero, List.set_cons_succ]
                  clear hq ht hBq
                  refine last.take (i := 15) (oi := { dst := some 59, op := Op.binOp BinOp.add 3 (Operand.tmp 49) (Operand.tmp 58) 3, type := 3, pos := "l4_games.go:108", after := #[{ on := 5, ground := Ground.data }, { on := 14, ground := Ground.data }], guard := none }) (v := ?v15m0) rfl (by kernel_rfl) (by kernel_rfl) (by kernel_rfl) (by kernel_rfl) (by decide) (fun _ _ _ h => h) (Or.inl ⟨by rfl, ?y15m0⟩) hHeld ?r15m0
                  case y15m0 => (intro w hSw; (try dsimp only at hSw); go_simp; try with_reducible rfl)
                  try simp only [Act.put, List.setIfInBounds_toArray, List.set_cons_zero, List.set_cons_succ]
                  refine last.take (i := 16) (oi := { dst := some 60, op := Op.indexAddr 22 (Operand.tmp 44) (Operand.tmp 45), type := 0, pos := "l4_games.go:108", after := #[{ on := 0, ground := Ground.data }, { on := 1, ground := Ground.data }, { on := 0, ground := Ground.phase }, { on := 1, ground := Ground.phase }, { on := 2, ground := Ground.phase }, { on := 3, ground := Ground.phase }, { on := 4, ground := Ground.phase }, { on := 5, ground := Ground.phase }, { on := 6, ground := Ground.phase }, { on := 7, ground := Ground.phase }, { on := 8, ground := Ground.phase }, { on := 9, ground := Ground.phase }, { on := 10, ground := Ground.phase }, { on := 11, ground := Ground.phase }, { on := 12, ground := Ground.phase }, { on := 13, ground := Ground.phase }, { on := 14, ground := Ground.phase }, { on := 15, ground := Ground.phase }], guard := none }) (v := ?v16m0) rfl (by kernel_rfl) (by kernel_rfl) (by kernel_rfl) (by kernel_rfl) (by decide) (fun _ _ _ h => h) (Or.inl ⟨by rfl, ?y16m0⟩) hHeld ?r16m0
                  case y16m0 => (intro w hSw; (try dsimp only at hSw); go_simp; try with_reducible rfl)
                  try simp only [Act.put, List.setIfInBounds_toArray, List.set_cons_zero, List.set_cons_succ]
                  refine last.final (o := { dst := none, op := Op.store 3 (Operand.tmp 60) (Operand.tmp 59), type := 0, pos := "l4_games.go:108", after := #[{ on := 16, ground := Ground.data }, { on := 15, ground := Ground.data }, { on := 14, ground := Ground.chain }, { on := 0, ground := Ground.phase }, { on := 1, ground := Ground.phase }, { on := 2, ground := Ground.phase }, { on := 3, ground := Ground.phase }, { on := 4, ground := Ground.phase }, { on := 5, ground := Ground.phase }, { on := 6, ground := Ground.phase }, { on := 7, ground := Ground.phase }, { on := 8, ground := Ground.phase }, { on := 9, ground := Ground.phase }, { on := 10, ground := Ground.phase }, { on := 11, ground := Ground.phase }, { on := 12, ground := Ground.phase }, { on := 13, ground := Ground.phase }, { on := 14, ground := Ground.phase }, { on := 15, ground := Ground.phase }], guard := none }) (by kernel_rfl) rfl (fun K hK => ?_)
                  go_simp
                  refine hK.out _ _ ?_
                  clear hK K
                  try simp only [Act.put, List.setIfInBounds_toArray, List.set_cons_zero, List.set_cons_succ]
                  refine last.done (by kernel_rfl) ?_ _
                  have hw1 : Wrote (fun p : Addr => p.block = g) wq (wq.setCell ⟨g, 0, none⟩ (.int .i64 (p0 + r0))) := (Wrote.refl (fun p : Addr => p.block = g) wq).setCell (p := (⟨g, 0, none⟩ : Addr)) rfl _
                  have S2 : Hid (Blk (wq.setCell ⟨g, 0, none⟩ (.int .i64 (p0 + r0))) g 3 #[.int .i64 (p0 + r0), .int .i64 p1]) := Lib.hid (by
                    have := Joins.block_setCell (i := 0) HBQ.out (.int .i64 (p0 + r0))
                    unfold Blk
                    simpa using this)
                  have O2 := Lib.hid (ownsRow_setCell_other (app.owns_below hO.out HT.out) (a := (⟨g, 0, none⟩ : Addr)) (fun e => HNB.out _ e rfl) (.int .i64 (p0 + r0)))
                  have B2 : Hid (Below w.heap.size w (wq.setCell ⟨g, 0, none⟩ (.int .i64 (p0 + r0)))) := Lib.hid (Below.setCell (below_tr hB.out HT.out) (by show w.heap.size ≤ g; omega) _)
                  have K2 : Hid (Blk (wq.setCell ⟨g, 0, none⟩ (.int .i64 (p0 + r0))) w.heap.size 28 #[.int .i64 (X : Int), .int .i64 (Y : Int), .slice va vn vc, .slice ua un uc]) := Lib.hid (Blk.wrote (hK.out.below HT.out) hw1 (fun p hp => by rw [show p.block = g from hp]; omega))
                  clear hHeld hw1 HT HBQ HBI d0 d1 d2 rf s0 s1 s2 c0 c1 c2 c3 c4 f1 hS hO hB hK
                  go_wp2_with fail
                  go_roundw
                  case rel => exact ⟨1, by omega, by go_num, Lib.hid (by simpa using S2.out), O2, B2, K2⟩
                  case measure => simp [intOf]
                · have hB2 : Blk wj g 3 #[.int .i64 (p0 + r0), .int .i64 p1] := by simpa using hS.out
                  have HBI := Lib.hid hB2
                  obtain ⟨s0, s1, s2⟩ := two_cells hB2
                  obtain ⟨c0, c1, c2, c3, c4⟩ := four_cells hK.out
                  have f1 := below_cell hB.out _ _ HF1.out
                  have HCA : Hid (∀ W, Below wj.heap.size wj W → Calls Try.prog 63 #[.agg #[.int .i64 (X : Int), .int .i64 (Y : Int), .slice va vn vc, .slice ua un uc], .int .i64 (n : Int), .int .i64 (a : Int), .int .i64 fz, .int .i64 1] W fun e w' => e = .returned (.int .i64 r1) ∧ Below W.heap.size W w') := Lib.hid (fun W hW => by
                    have := HW.out W n a fz 1 (below_tr hB.out hW) HLN.out HLA.out HFZ.out (by omega)
                    rw [HR1.out] at this
                    exact this)
                  clear hB2
                  rw [show ((1 : Nat) : Int) = 1 from rfl]
                  go_wp2_with fail
                  refine last.start (S := (fun w' => w'.cell? ⟨w.heap.size, 0, none⟩ = some (.int .i64 (X : Int)) ∧ w'.cell? ⟨w.heap.size, 1, none⟩ = some (.int .i64 (Y : Int)) ∧ w'.cell? ⟨w.heap.size, 2, none⟩ = some (.slice va vn vc) ∧ w'.cell? ⟨w.heap.size, 3, none⟩ = some (.slice ua un uc) ∧ w'.cell? ⟨fb, fo + n, none⟩ = some (.int .i64 fz) ∧ w'.cell? ⟨g, 1, none⟩ = some (.int .i64 p1) ∧ Below wj.heap.size wj w')) (L := 17) (by kernel_rfl) ?_
                  have hHeld : (fun w' => w'.cell? ⟨w.heap.size, 0, none⟩ = some (.int .i64 (X : Int)) ∧ w'.cell? ⟨w.heap.size, 1, none⟩ = some (.int .i64 (Y : Int)) ∧ w'.cell? ⟨w.heap.size, 2, none⟩ = some (.slice va vn vc) ∧ w'.cell? ⟨w.heap.size, 3, none⟩ = some (.slice ua un uc) ∧ w'.cell? ⟨fb, fo + n, none⟩ = some (.int .i64 fz) ∧ w'.cell? ⟨g, 1, none⟩ = some (.int .i64 p1) ∧ Below wj.heap.size wj w') wj.drew := gscore.held6 c0 c1 c2 c3 f1 s1 (below_dr (Below.refl _ _))
                  refine last.take (i := 0) (oi := { dst := some 44, op := Op.move (Operand.tmp 10), type := 22, pos := "l4_games.go:108", after := #[], guard := none }) (v := ?v0m1) rfl (by kernel_rfl) (by kernel_rfl) (by kernel_rfl) (by kernel_rfl) (by decide) (fun _ _ _ h => h) (Or.inl ⟨by rfl, ?y0m1⟩) hHeld ?r0m1
                  case y0m1 => (intro w hSw; (try dsimp only at hSw); go_simp; try with_reducible rfl)
                  try simp only [Act.put, List.setIfInBounds_toArray, List.set_cons_zero, List.set_cons_succ]
                  refine last.take (i := 1) (oi := { dst := some 45, op := Op.move (Operand.tmp 12), type := 3, pos := "l4_games.go:108", after := #[], guard := none }) (v := ?v1m1) rfl (by kernel_rfl) (by kernel_rfl) (by kernel_rfl) (by kernel_rfl) (by decide) (fun _ _ _ h => h) (Or.inl ⟨by rfl, ?y1m1⟩) hHeld ?r1m1
                  case y1m1 => (intro w hSw; (try dsimp only at hSw); go_simp; try with_reducible rfl)
                  try simp only [Act.put, List.setIfInBounds_toArray, List.set_cons_zero, List.set_cons_succ]
                  refine last.take (i := 2) (oi := { dst := some 46, op := Op.move (Operand.tmp 10), type := 22, pos := "l4_games.go:108", after := #[], guard := none }) (v := ?v2m1) rfl (by kernel_rfl) (by kernel_rfl) (by kernel_rfl) (by kernel_rfl) (by decide) (fun _ _ _ h => h) (Or.inl ⟨by rfl, ?y2m1⟩) hHeld ?r2m1
                  case y2m1 => (intro w hSw; (try dsimp only at hSw); go_simp; try with_reducible rfl)
                  try simp only [Act.put, List.setIfInBounds_toArray, List.set_cons_zero, List.set_cons_succ]
                  refine last.take (i := 3) (oi := { dst := some 47, op := Op.move (Operand.tmp 12), type := 3, pos := "l4_games.go:108", after := #[], guard := none }) (v := ?v3m1) rfl (by kernel_rfl) (by kernel_rfl) (by kernel_rfl) (by kernel_rfl) (by decide) (fun _ _ _ h => h) (Or.inl ⟨by rfl, ?y3m1⟩) hHeld ?r3m1
                  case y3m1 => (intro w hSw; (try dsimp only at hSw); go_simp; try with_reducible rfl)
                  try simp only [Act.put, List.setIfInBounds_toArray, List.set_cons_zero, List.set_cons_succ]
                  refine last.take (i := 4) (oi := { dst := some 48, op := Op.indexAddr 22 (Operand.tmp 46) (Operand.tmp 47), type := 0, pos := "l4_games.go:108", after := #[{ on := 2, ground := Ground.data }, { on := 3, ground := Ground.data }], guard := none }) (v := ?v4m1) rfl (by kernel_rfl) (by kernel_rfl) (by kernel_rfl) (by kernel_rfl) (by decide) (fun _ _ _ h => h) (Or.inl ⟨by rfl, ?y4m1⟩) hHeld ?r4m1
                  case y4m1 => (intro w hSw; (try dsimp only at hSw); go_simp; try with_reducible rfl)
                  try simp only [Act.put, List.setIfInBounds_toArray, List.set_cons_zero, List.set_cons_succ]
                  refine last.take (i := 5) (oi := { dst := some 49, op := Op.load 3 (Operand.tmp 48), type := 3, pos := "l4_games.go:108", after := #[{ on := 4, ground := Ground.data }], guard := none }) (v := ?v5m1) rfl (by kernel_rfl) (by kernel_rfl) (by kernel_rfl) (by kernel_rfl) (by decide) (fun _ _ _ h => h) (Or.inl ⟨by rfl, ?y5m1⟩) hHeld ?r5m1
                  case y5m1 => (intro w hSw; (try dsimp only at hSw); go_simp; try with_reducible rfl)
                  try simp only [Act.put, List.setIfInBounds_toArray, List.set_cons_zero, List.set_cons_succ]
                  refine last.take (i := 6) (oi := { dst := some 50, op := Op.load 28 (Operand.tmp 2), type := 28, pos := "l4_games.go:108", after := #[], guard := none }) (v := ?v6m1) rfl (by kernel_rfl) (by kernel_rfl) (by kernel_rfl) (by kernel_rfl) (by decide) (fun _ _ _ h => h) (Or.inl ⟨by rfl, ?y6m1⟩) hHeld ?r6m1
                  case y6m1 => (intro w hSw; (try dsimp only at hSw); go_simp; try with_reducible rfl)
                  try simp only [Act.put, List.setIfInBounds_toArray, List.set_cons_zero, List.set_cons_succ]
                  refine last.take (i := 7) (oi := { dst := some 51, op := Op.move (Operand.tmp 11), type := 3, pos := "l4_games.go:108", after := #[], guard := none }) (v := ?v7m1) rfl (by kernel_rfl) (by kernel_rfl) (by kernel_rfl) (by kernel_rfl) (by decide) (fun _ _ _ h => h) (Or.inl ⟨by rfl, ?y7m1⟩) hHeld ?r7m1
                  case y7m1 => (intro w hSw; (try dsimp only at hSw); go_simp; try with_reducible rfl)
                  try simp only [Act.put, List.setIfInBounds_toArray, List.set_cons_zero, List.set_cons_succ]
                  refine last.take (i := 8) (oi := { dst := some 52, op := Op.move (Operand.tmp 9), type := 3, pos := "l4_games.go:108", after := #[], guard := none }) (v := ?v8m1) rfl (by kernel_rfl) (by kernel_rfl) (by kernel_rfl) (by kernel_rfl) (by decide) (fun _ _ _ h => h) (Or.inl ⟨by rfl, ?y8m1⟩) hHeld ?r8m1
                  case y8m1 => (intro w hSw; (try dsimp only at hSw); go_simp; try with_reducible rfl)
                  try simp only [Act.put, List.setIfInBounds_toArray, List.set_cons_zero, List.set_cons_succ]
                  refine last.take (i := 9) (oi := { dst := some 53, op := Op.move (Operand.tmp 1), type := 22, pos := "l4_games.go:108", after := #[], guard := none }) (v := ?v9m1) rfl (by kernel_rfl) (by kernel_rfl) (by kernel_rfl) (by kernel_rfl) (by decide) (fun _ _ _ h => h) (Or.inl ⟨by rfl, ?y9m1⟩) hHeld ?r9m1
                  case y9m1 => (intro w hSw; (try dsimp only at hSw); go_simp; try with_reducible rfl)
                  try simp only [Act.put, List.setIfInBounds_toArray, List.set_cons_zero, List.set_cons_succ]
                  refine last.take (i := 10) (oi := { dst := some 54, op := Op.move (Operand.tmp 11), type := 3, pos := "l4_games.go:108", after := #[], guard := none }) (v := ?v10m1) rfl (by kernel_rfl) (by kernel_rfl) (by kernel_rfl) (by kernel_rfl) (by decide) (fun _ _ _ h => h) (Or.inl ⟨by rfl, ?y10m1⟩) hHeld ?r10m1
                  case y10m1 => (intro w hSw; (try dsimp only at hSw); go_simp; try with_reducible rfl)
                  try simp only [Act.put, List.setIfInBounds_toArray, List.set_cons_zero, List.set_cons_succ]
                  refine last.take (i := 11) (oi := { dst := some 55, op := Op.indexAddr 22 (Operand.tmp 53) (Operand.tmp 54), type := 0, pos := "l4_games.go:108", after := #[{ on := 9, ground := Ground.data }, { on := 10, ground := Ground.data }], guard := none }) (v := ?v11m1) rfl (by kernel_rfl) (by kernel_rfl) (by kernel_rfl) (by kernel_rfl) (by decide) (fun _ _ _ h => h) (Or.inl ⟨by rfl, ?y11m1⟩) hHeld ?r11m1
                  case y11m1 => (intro w hSw; (try dsimp only at hSw); go_simp; try with_reducible rfl)
                  try simp only [Act.put, List.setIfInBounds_toArray, List.set_cons_zero, List.set_cons_succ]
                  refine last.take (i := 12) (oi := { dst := some 56, op := Op.load 3 (Operand.tmp 55), type := 3, pos := "l4_games.go:108", after := #[{ on := 11, ground := Ground.data }], guard := none }) (v := ?v12m1) rfl (by kernel_rfl) (by kernel_rfl) (by kernel_rfl) (by kernel_rfl) (by decide) (fun _ _ _ h => h) (Or.inl ⟨by rfl, ?y12m1⟩) hHeld ?r12m1
                  case y12m1 => (intro w hSw; (try dsimp only at hSw); go_simp; try with_reducible rfl)
                  try simp only [Act.put, List.setIfInBounds_toArray, List.set_cons_zero, List.set_cons_succ]
                  refine last.take (i := 13) (oi := { dst := some 57, op := Op.move (Operand.tmp 12), type := 3, pos := "l4_games.go:108", after := #[], guard := none }) (v := ?v13m1) rfl (by kernel_rfl) (by kernel_rfl) (by kernel_rfl) (by kernel_rfl) (by decide) (fun _ _ _ h => h) (Or.inl ⟨by rfl, ?y13m1⟩) hHeld ?r13m1
                  case y13m1 => (intro w hSw; (try dsimp only at hSw); go_simp; try with_reducible rfl)
                  try simp only [Act.put, List.setIfInBounds_toArray, List.set_cons_zero, List.set_cons_succ]
                  refine last.one (i := 14) (o := { dst := some 58, op := Op.call { callee := Callee.value (Operand.func 63), args := #[Operand.tmp 50, Operand.tmp 51, Operand.tmp 52, Operand.tmp 56, Operand.tmp 57], argTypes := #[28, 3, 3, 3, 3] }, type := 3, pos := "l4_games.go:108", after := #[{ on := 6, ground := Ground.data }, { on := 7, ground := Ground.data }, { on := 8, ground := Ground.data }, { on := 12, ground := Ground.data }, { on := 13, ground := Ground.data }], guard := none }) (by kernel_rfl) rfl (fun K hK => ?_)
                  go_simp
                  (go_at_call 63; (with_reducible refine (HCA.out _ (below_dr (Below.refl _ _))).mono ?_); rintro e wq ⟨rfl, hq⟩)
                  have ht : Below wj.heap.size wj wq := below_tr (below_dr (Below.refl _ _)) hq
                  have hBq := HBI.out.below ht
                  have rf : ∀ k, wq.frozen? ⟨g, k, none⟩ = false := fun k => Joins.unfrozen_of_block hBq k
                  obtain ⟨d0, d1, d2⟩ := two_cells hBq
                  have HT := Lib.hid ht
                  have HBQ := Lib.hid hBq
                  refine hK.out _ _ ?s14m1 (fun hHeld => ?_)
                  case s14m1 => (try dsimp only); exact gscore.held6 c0 c1 c2 c3 f1 s1 ht
                  clear hK K
                  try simp only [Act.put, List.setIfInBounds_toArray, List.set_cons_zero, List.set_cons_succ]
                  clear hq ht hBq
                  refine last.take (i := 15) (oi := { dst := some 59, op := Op.binOp BinOp.add 3 (Operand.tmp 49) (Operand.tmp 58) 3, type := 3, pos := "l4_games.go:108", after := #[{ on := 5, ground := Ground.data }, { on := 14, ground := Ground.data }], guard := none }) (v := ?v15m1) rfl (by kernel_rfl) (by kernel_rfl) (by kernel_rfl) (by kernel_rfl) (by decide) (fun _ _ _ h => h) (Or.inl ⟨by rfl, ?y15m1⟩) hHeld ?r15m1
                  case y15m1 => (intro w hSw; (try dsimp only at hSw); go_simp; try with_reducible rfl)
                  try simp only [Act.put, List.setIfInBounds_toArray, List.set_cons_zero, List.set_cons_succ]
                  refine last.take (i := 16) (oi := { dst := some 60, op := Op.indexAddr 22 (Operand.tmp 44) (Operand.tmp 45), type := 0, pos := "l4_games.go:108", after := #[{ on := 0, ground := Ground.data }, { on := 1, ground := Ground.data }, { on := 0, ground := Ground.phase }, { on := 1, ground := Ground.phase }, { on := 2, ground := Ground.phase }, { on := 3, ground := Ground.phase }, { on := 4, ground := Ground.phase }, { on := 5, ground := Ground.phase }, { on := 6, ground := Ground.phase }, { on := 7, ground := Ground.phase }, { on := 8, ground := Ground.phase }, { on := 9, ground := Ground.phase }, { on := 10, ground := Ground.phase }, { on := 11, ground := Ground.phase }, { on := 12, ground := Ground.phase }, { on := 13, ground := Ground.phase }, { on := 14, ground := Ground.phase }, { on := 15, ground := Ground.phase }], guard := none }) (v := ?v16m1) rfl (by kernel_rfl) (by kernel_rfl) (by kernel_rfl) (by kernel_rfl) (by decide) (fun _ _ _ h => h) (Or.inl ⟨by rfl, ?y16m1⟩) hHeld ?r16m1
                  case y16m1 => (intro w hSw; (try dsimp only at hSw); go_simp; try with_reducible rfl)
                  try simp only [Act.put, List.setIfInBounds_toArray, List.set_cons_zero, List.set_cons_succ]
                  refine last.final (o := { dst := none, op := Op.store 3 (Operand.tmp 60) (Operand.tmp 59), type := 0, pos := "l4_games.go:108", after := #[{ on := 16, ground := Ground.data }, { on := 15, ground := Ground.data }, { on := 14, ground := Ground.chain }, { on := 0, ground := Ground.phase }, { on := 1, ground := Ground.phase }, { on := 2, ground := Ground.phase }, { on := 3, ground := Ground.phase }, { on := 4, ground := Ground.phase }, { on := 5, ground := Ground.phase }, { on := 6, ground := Ground.phase }, { on := 7, ground := Ground.phase }, { on := 8, ground := Ground.phase }, { on := 9, ground := Ground.phase }, { on := 10, ground := Ground.phase }, { on := 11, ground := Ground.phase }, { on := 12, ground := Ground.phase }, { on := 13, ground := Ground.phase }, { on := 14, ground := Ground.phase }, { on := 15, ground := Ground.phase }], guard := none }) (by kernel_rfl) rfl (fun K hK => ?_)
                  go_simp
                  refine hK.out _ _ ?_
                  clear hK K
                  try simp only [Act.put, List.setIfInBounds_toArray, List.set_cons_zero, List.set_cons_succ]
                  refine last.done (by kernel_rfl) ?_ _
                  have hw1 : Wrote (fun p : Addr => p.block = g) wq (wq.setCell ⟨g, 1, none⟩ (.int .i64 (p1 + r1))) := (Wrote.refl (fun p : Addr => p.block = g) wq).setCell (p := (⟨g, 1, none⟩ : Addr)) rfl _
                  have S2 : Hid (Blk (wq.setCell ⟨g, 1, none⟩ (.int .i64 (p1 + r1))) g 3 #[.int .i64 (p0 + r0), .int .i64 (p1 + r1)]) := Lib.hid (by
                    have := Joins.block_setCell (i := 1) HBQ.out (.int .i64 (p1 + r1))
                    unfold Blk
                    simpa using this)
                  have O2 := Lib.hid (ownsRow_setCell_other (app.owns_below hO.out HT.out) (a := (⟨g, 1, none⟩ : Addr)) (fun e => HNB.out _ e rfl) (.int .i64 (p1 + r1)))
                  have B2 : Hid (Below w.heap.size w (wq.setCell ⟨g, 1, none⟩ (.int .i64 (p1 + r1)))) := Lib.hid (Below.setCell (below_tr hB.out HT.out) (by show w.heap.size ≤ g; omega) _)
                  have K2 : Hid (Blk (wq.setCell ⟨g, 1, none⟩ (.int .i64 (p1 + r1))) w.heap.size 28 #[.int .i64 (X : Int), .int .i64 (Y : Int), .slice va vn vc, .slice ua un uc]) := Lib.hid (Blk.wrote (hK.out.below HT.out) hw1 (fun p hp => by rw [show p.block = g from hp]; omega))
                  clear hHeld hw1 HT HBQ HBI d0 d1 d2 rf s0 s1 s2 c0 c1 c2 c3 c4 f1 hS hO hB hK
                  go_wp2_with fail
                  go_roundw
                  case rel => exact ⟨2, by omega, by go_num, Lib.hid (by simpa using S2.out), O2, B2, K2⟩
                  case measure => simp [intOf]
                · have S2 : Hid (Blk wj g 3 #[.int .i64 (pc Y ws xss f a 0 (n + 1)), .int .i64 (pc Y ws xss f a 1 (n + 1))]) := Lib.hid (by rw [HS0.out, HS1.out]; simpa using hS.out)
                  go_wp2_with fail
                  go_roundw
                  case rel => exact ⟨n + 1, by omega, by go_num, ⟨_, rfl⟩, S2, hO, hB, hK⟩
                  case measure => simp [intOf]; omega
            · have hkn : ¬ (n : Int) < (X : Int) := by omega
              obtain rfl : X = n := by omega
              have hp0 := pc_col X Y ws xss f a 0
              have hp1 := pc_col X Y ws xss f a 1
              have b0 := HPB.out a 0 X
              have b1 := HPB.out a 1 X
              have hrep0 : rep X Y ws xss f a = if pc Y ws xss f a 0 X < pc Y ws xss f a 1 X then 1 else 0 := rfl
              have HCOL : Hid (∀ z, rep X Y ws xss f a = z → (z = 0 → col X Y ws xss f a (rep X Y ws xss f a) = pc Y ws xss f a 0 X) ∧ (z = 1 → col X Y ws xss f a (rep X Y ws xss f a) = pc Y ws xss f a 1 X)) := Lib.hid (fun z hz => ⟨fun e => by rw [hz, e]; rfl, fun e => by rw [hz, e]; rfl⟩)
              generalize pc Y ws xss f a 0 X = p0 at *
              generalize pc Y ws xss f a 1 X = p1 at *
              clear hp0 hp1
              obtain ⟨s0, s1, s2⟩ := two_cells hS.out
              by_cases hbest : p0 < p1
              · have dq : decide (p0 < p1) = true := by simp [hbest]
                have HREP : Hid (rep X Y ws xss f a = 1) := Lib.hid (by rw [hrep0]; simp [hbest])
                have HCL : Hid (col X Y ws xss f a (rep X Y ws xss f a) = p1) := Lib.hid ((HCOL.out 1 HREP.out).2 rfl)
                clear hrep0 hbest HCOL
                go_wp2_with fail
                go_region
                have OD := Lib.hid ((app.owns_below hO.out (below_dr (Below.refl _ _))).alloc (.cells #[.int .i64 1] 3))
                have SD := Lib.hid ((hS.out.below (below_dr (Below.refl _ _))).alloc (.cells #[.int .i64 1] 3))
                have BD := Lib.hid (below_al (below_dr hB.out) (.cells #[.int .i64 1] 3))
                have KD := Lib.hid ((hK.out.below (below_dr (Below.refl _ _))).alloc (.cells #[.int .i64 1] 3))
                clear hO hB hK hS c0 c1 c2 c3 c4 s0 s1
                go_wp2_with (at_builtin; go_must (refine wpList_append_own _ rfl (.tmp 68) (.tmp 70) 22 rfl (w.heap.size + 1) 3 i0 (.int .i64 0) 1 8 Try.underlying22 hi hz0 hz1 hz2 rfl (by decide) _ _ _ rfl OD.out ⟨wi.heap.size, 0, none⟩ 1 1 [.int .i64 1] rfl rfl ?c1x1 ?c2x1 ?c3x1 ?c4x1 ?c5x1 ?_))
                case c1x1 => exact app.one_at wi.drew _ _
                case c2x1 => intro u hu; simp at hu; subst hu; rfl
                case c3x1 => unfold maxLen; omega
                case c4x1 => omega
                case c5x1 => have := BD.out.size; simp at this ⊢; omega
                intro v' w3 hown' hgrow _
                have O3 : Hid (w3.ownsRow (w.heap.size + 1) 3 1 v' (a + 1) (i64s ((List.range (a + 1)).map (rep X Y ws xss f)))) := Lib.hid (by
                  have e : (List.range (a + 1)).map (rep X Y ws xss f) = (List.range a).map (rep X Y ws xss f) ++ [1] := by simp [List.range_succ, HREP.out]
                  rw [e, ← app.i64s_snoc]; exact hown')
                have B3 : Hid (Below w.heap.size w w3) := Lib.hid (BD.out.grown hgrow BD.out.size (fun j hj => by have := (OD.out.lt j hj).1; omega))
                have K3 : Hid (Blk w3 w.heap.size 28 #[.int .i64 (X : Int), .int .i64 (Y : Int), .slice va vn vc, .slice ua un uc]) := Lib.hid ((hgrow.block _ KD.out.lt (fun e => by have := (OD.out.lt _ e.symm).1; omega)).trans KD.out)
                have S3 : Hid (Blk w3 g 3 #[.int .i64 p0, .int .i64 p1]) := Lib.hid ((hgrow.block _ SD.out.lt (fun e => HNB.out _ e.symm rfl)).trans SD.out)
                obtain ⟨s0, s1, s3⟩ := two_cells S3.out
                obtain ⟨xa, xl, xc, rfl⟩ := make.shape hown'
                clear hown' hgrow OD BD KD SD
                go_wp2_with fail
                go_roundw
                case rel => exact ⟨a + 1, _, by omega, by go_num, rfl, by omega, by omega, Lib.hid (by rw [hQ.out]; show _ = cum _ a + col X Y ws xss f a (rep X Y ws xss f a); rw [HCL.out]), O3, B3, K3⟩
                case measure => simp [intOf]; omega
              · have dq : decide (p0 < p1) = false := by simp; omega
                have HREP : Hid (rep X Y ws xss f a = 0) := Lib.hid (by rw [hrep0]; simp [hbest])
                have HCL : Hid (col X Y ws xss f a (rep X Y ws xss f a) = p0) := Lib.hid ((HCOL.out 0 HREP.out).1 rfl)
                clear hrep0 hbest HCOL
                go_wp2_with fail
                go_region
                have OD := Lib.hid ((app.owns_below hO.out (below_dr (Below.refl _ _))).alloc (.cells #[.int .i64 0] 3))
                have SD := Lib.hid ((hS.out.below (below_dr (Below.refl _ _))).alloc (.cells #[.int .i64 0] 3))
                have BD := Lib.hid (below_al (below_dr hB.out) (.cells #[.int .i64 0] 3))
                have KD := Lib.hid ((hK.out.below (below_dr (Below.refl _ _))).alloc (.cells #[.int .i64 0] 3))
                clear hO hB hK hS c0 c1 c2 c3 c4 s0 s1
                go_wp2_with (at_builtin; go_must (refine wpList_append_own _ rfl (.tmp 68) (.tmp 70) 22 rfl (w.heap.size + 1) 3 i0 (.int .i64 0) 1 8 Try.underlying22 hi hz0 hz1 hz2 rfl (by decide) _ _ _ rfl OD.out ⟨wi.heap.size, 0, none⟩ 1 1 [.int .i64 0] rfl rfl ?c1x0 ?c2x0 ?c3x0 ?c4x0 ?c5x0 ?_))
                case c1x0 => exact app.one_at wi.drew _ _
                case c2x0 => intro u hu; simp at hu; subst hu; rfl
                case c3x0 => unfold maxLen; omega
                case c4x0 => omega
                case c5x0 => have := BD.out.size; simp at this ⊢; omega
                intro v' w3 hown' hgrow _
                have O3 : Hid (w3.ownsRow (w.heap.size + 1) 3 1 v' (a + 1) (i64s ((List.range (a + 1)).map (rep X Y ws xss f)))) := Lib.hid (by
                  have e : (List.range (a + 1)).map (rep X Y ws xss f) = (List.range a).map (rep X Y ws xss f) ++ [0] := by simp [List.range_succ, HREP.out]
                  rw [e, ← app.i64s_snoc]; exact hown')
                have B3 : Hid (Below w.heap.size w w3) := Lib.hid (BD.out.grown hgrow BD.out.size (fun j hj => by have := (OD.out.lt j hj).1; omega))
                have K3 : Hid (Blk w3 w.heap.size 28 #[.int .i64 (X : Int), .int .i64 (Y : Int), .slice va vn vc, .slice ua un uc]) := Lib.hid ((hgrow.block _ KD.out.lt (fun e => by have := (OD.out.lt _ e.symm).1; omega)).trans KD.out)
                have S3 : Hid (Blk w3 g 3 #[.int .i64 p0, .int .i64 p1]) := Lib.hid ((hgrow.block _ SD.out.lt (fun e => HNB.out _ e.symm rfl)).trans SD.out)
                obtain ⟨s0, s1, s3⟩ := two_cells S3.out
                obtain ⟨xa, xl, xc, rfl⟩ := make.shape hown'
                clear hown' hgrow OD BD KD SD
                go_wp2_with fail
                go_roundw
                case rel => exact ⟨a + 1, _, by omega, by go_num, rfl, by omega, by omega, Lib.hid (by rw [hQ.out]; show _ = cum _ a + col X Y ws xss f a (rep X Y ws xss f a); rw [HCL.out]), O3, B3, K3⟩
                case measure => simp [intOf]; omega
        · have hkz : ¬ (a : Int) < (Y : Int) := by omega
          obtain rfl : a = Y := by omega
          obtain ⟨xa, xl, xc, rfl⟩ := make.shape hO.out
          go_wp2_with fail
          go_ret3
          exact ⟨_, by rw [HSC.out, ← hQ.out]; rfl, (app.ints_of_owns hO.out).ints, hB.out⟩
    · have HE2 := Lib.hid (withinB_no hw)
      rw [res_no (fun h => hw h.2)]
      obtain ⟨pa, pn, pq, rfl⟩ := hp.shape
      clear hok hw h hp
      go_enter Try.func33, Try.ntmps33
      go_wp2_with fail
      refine HC.out.mono ?_
      rintro e w1 ⟨rfl, hb⟩
      rw [HE.out]
      have B1 := Lib.hid (below_tr B0.out hb)
      obtain ⟨c0, c1, c2, c3, c4⟩ := four_cells (K0.out.below hb)
      clear hb HC K0
      go_wp2_with fail
      refine (HBI.out _ B1.out).mono ?_
      rintro e w2 ⟨rfl, rfl⟩
      rw [HE2.out]
      go_wp2_with fail
      go_ret3
      exact ⟨_, rfl, app.empty _ _ _ (Nat.zero_le _), B1.out⟩
  · have HE := Lib.hid (gameB_no hok)
    rw [res_no (fun h => hok h.1)]
    obtain ⟨pa, pn, pq, rfl⟩ := hp.shape
    clear hok h hp
    go_enter Try.func33, Try.ntmps33
    go_wp2_with fail
    refine HC.out.mono ?_
    rintro e w1 ⟨rfl, hb⟩
    rw [HE.out]
    have B1 := Lib.hid (below_tr B0.out hb)
    clear hb HC K0
    go_wp2_with fail
    go_ret3
    exact ⟨_, rfl, app.empty _ _ _ (Nat.zero_le _), B1.out⟩


end Go.Proofs.Ytkajebhagkbcaac.gbr
