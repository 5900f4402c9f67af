/- l4Replies of the model. -/
import Derived.Test.YtimfnhejiiagmaaBvs
import Derived.Test.YtimfnhejiiagmaaLmm
import Derived.Test.YtimfnhejiiagmaaPlg
namespace Go.Proofs.Ytimfnhejiiagmaa.bvr
open Go.RowKit Go.Deep Go.Proofs.Ytimfnhejiiagmaa.base
open Go.Proofs.Ytimfnhejiiagmaa.ints (ret_int)
open Go.Proofs.Ytimfnhejiiagmaa.gval (okGame)
open Go.Proofs.Ytimfnhejiiagmaa.gwon (won won_bd)
open Go.Proofs.Ytimfnhejiiagmaa.bvm Go.Proofs.Ytimfnhejiiagmaa.bvs
open Go.Proofs.Ytimfnhejiiagmaa.gscore (at_cast)

/-- the answers of the first player of both Games, one number for each pair of questions -/
def dg (n c : Nat) : List Int := (List.range n).map fun i => ((c / 2 ^ (2 * i) % 4 : Nat) : Int)
theorem len_dg (n c : Nat) : (dg n c).length = n := by simp [dg]
theorem dg_succ (n c : Nat) : dg (n + 1) c = dg n c ++ [((c / 2 ^ (2 * n) % 4 : Nat) : Int)] := by simp [dg, List.range_succ]


set_option maxRecDepth 100000 in
set_option maxHeartbeats 8000000 in
theorem replies (X1 Y1 X2 Y2 : Nat) (v : Value) (ws : List Int) (u : Value) (xss : List (List Int)) (v' : Value) (vs : List Int) (u' : Value) (yss : List (List Int)) (fv : Value) (c y z : Nat) (w : World)
    (h : game.GV w v ws u xss) (h' : game.GV w v' vs u' yss) (hf : Ints w fv (dg (X1 * X2) c)) (hok : okTwo X1 Y1 X2 Y2 ws xss vs yss) (hy : y < Y1) (hz : z < Y2) :
    Calls Try.prog 87 #[.agg #[.int .i64 (X1 : Int), .int .i64 (Y1 : Int), v, u], .agg #[.int .i64 (X2 : Int), .int .i64 (Y2 : Int), v', u'], fv, .int .i64 (y : Int), .int .i64 (z : Int)] w
      fun e w' => e = .returned (.int .i64 (bvm.best X1 Y1 X2 Y2 ws xss vs yss (cA c) (cC c) (y * Y2 + z) 4)) ∧ Below w.heap.size w w' := by
  obtain ⟨ok1, ok2, x2, y2, x2', y2'⟩ := hok
  have hX1 : 1 ≤ X1 ∧ X1 ≤ 2 := by have := ok1.1.1; omega
  have hX2 : 1 ≤ X2 ∧ X2 ≤ 2 := by have := ok2.1.1; omega
  have hXX : X1 * X2 ≤ 4 := mul4 hX1.2 hX2.2
  have hX0 : 0 < X1 * X2 := Nat.mul_pos (by omega) (by omega)
  have eq1 : (y * Y2 + z) / Y2 = y := by rw [Nat.add_comm, Nat.add_mul_div_right _ _ (by omega), Nat.div_eq_of_lt hz, Nat.zero_add]
  have eq2 : (y * Y2 + z) % Y2 = z := by rw [Nat.add_comm, Nat.add_mul_mod_self_right, Nat.mod_eq_of_lt hz]
  have HPB := Lib.hid (fun r i => part_bd X1 Y1 X2 Y2 ws xss vs yss ok1 ok2 (cA c) (cC c) (y * Y2 + z) r i)
  obtain ⟨P, hP⟩ : ∃ P : Nat → Nat → Int, (fun r i => bvm.part Y1 X2 Y2 ws xss vs yss (cA c) (cC c) (y * Y2 + z) r i) = P := ⟨_, rfl⟩
  have HP0 : Hid (∀ r, P r 0 = 0) := Lib.hid (fun r => by subst hP; rfl)
  have HPS : Hid (∀ r a b, b < X2 → P r (a * X2 + (b + 1)) = P r (a * X2 + b) + won ws xss (a * Y1 + y) (((c / 2 ^ (2 * (a * X2 + b)) % 4 / 2 : Nat) : Int)) ((r / 2 : Nat) : Int) * won vs yss (b * Y2 + z) (((c / 2 ^ (2 * (a * X2 + b)) % 4 % 2 : Nat) : Int)) ((r % 2 : Nat) : Int)) := Lib.hid (fun r a b hb => by
    subst hP
    have e1 : (a * X2 + b) / X2 = a := by rw [Nat.add_comm, Nat.add_mul_div_right _ _ (by omega), Nat.div_eq_of_lt hb, Nat.zero_add]
    have e2 : (a * X2 + b) % X2 = b := by rw [Nat.add_comm, Nat.add_mul_mod_self_right, Nat.mod_eq_of_lt hb]
    show bvm.part Y1 X2 Y2 ws xss vs yss (cA c) (cC c) (y * Y2 + z) r (a * X2 + b) + bvm.pay Y1 X2 Y2 ws xss vs yss (cA c) (cC c) (y * Y2 + z) r (a * X2 + b) = _
    unfold bvm.pay cA cC
    rw [e1, e2, eq1, eq2])
  have HBD : Hid (∀ r i, i ≤ 4 → 0 ≤ P r i ∧ P r i ≤ 39204) := Lib.hid (by subst hP; exact HPB.out)
  have HBE : Hid (bvm.best X1 Y1 X2 Y2 ws xss vs yss (cA c) (cC c) (y * Y2 + z) 4 = mx (fun r => P r (X1 * X2)) 4) := Lib.hid (by subst hP; rfl)
  have HBX : Hid (∀ n, 0 ≤ mx (fun r => P r (X1 * X2)) n ∧ mx (fun r => P r (X1 * X2)) n ≤ 39204) := Lib.hid (fun n => ⟨mx_nn _ _, mx_le _ (by decide) _ (fun t _ => (HBD.out t _ hXX).2)⟩)
  rw [HBE.out]
  have HW1 : Hid (∀ (W : World) (a : Nat) (s r : Int), Below w.heap.size w W → a < X1 → (s = 0 ∨ s = 1) → (r = 0 ∨ r = 1) → Calls Try.prog 129 #[.agg #[.int .i64 (X1 : Int), .int .i64 (Y1 : Int), v, u], .int .i64 (a : Int), .int .i64 (y : Int), .int .i64 s, .int .i64 r] W fun e w' => e = .returned (.int .i64 (won ws xss (a * Y1 + y) s r)) ∧ Below W.heap.size W w') := Lib.hid (fun W a s r hW ha hs hr => by
    have := gwon.l4won X1 Y1 a y s r v ws u xss W (h.below hW) ok1 (by omega) (by omega) (by omega) (by omega) hs hr
    rw [at_cast] at this
    exact this)
  have HW2 : Hid (∀ (W : World) (a : Nat) (s r : Int), Below w.heap.size w W → a < X2 → (s = 0 ∨ s = 1) → (r = 0 ∨ r = 1) → Calls Try.prog 129 #[.agg #[.int .i64 (X2 : Int), .int .i64 (Y2 : Int), v', u'], .int .i64 (a : Int), .int .i64 (z : Int), .int .i64 s, .int .i64 r] W fun e w' => e = .returned (.int .i64 (won vs yss (a * Y2 + z) s r)) ∧ Below W.heap.size W w') := Lib.hid (fun W a s r hW ha hs hr => by
    have := gwon.l4won X2 Y2 a z s r v' vs u' yss W (h'.below hW) ok2 (by omega) (by omega) (by omega) (by omega) hs hr
    rw [at_cast] at this
    exact this)
  have HB1 : Hid (∀ a s r, 0 ≤ won ws xss a s r ∧ won ws xss a s r ≤ 99) := Lib.hid (fun a s r => won_bd ok1 _ _ _)
  have HB2 : Hid (∀ a s r, 0 ≤ won vs yss a s r ∧ won vs yss a s r ≤ 99) := Lib.hid (fun a s r => won_bd ok2 _ _ _)
  obtain ⟨va, vn, vc, ua, un, uc, rfl, rfl⟩ := h.shape
  obtain ⟨va', vn', vc', ua', un', uc', rfl, rfl⟩ := h'.shape
  obtain ⟨A, pb, po, pcap, rfl, hcap, hmax, hA, hc⟩ := hf.form
  obtain rfl := hA (by rw [len_dg]; exact hX0)
  have HPC : Hid (∀ k, k < X1 * X2 → w.cell? ⟨pb, po + k, none⟩ = some (.int .i64 ((c / 2 ^ (2 * k) % 4 : Nat) : Int))) := Lib.hid (fun k hk => by
    have h1 := hc k (by rw [len_dg]; exact hk)
    rw [h1]
    simp [dg])
  have F0 := Lib.hid (Gg.start w #[.int .i64 (X1 : Int), .int .i64 (Y1 : Int), .slice va vn vc, .slice ua un uc] #[.int .i64 (X2 : Int), .int .i64 (Y2 : Int), .slice va' vn' vc', .slice ua' un' uc'])
  obtain ⟨D, hD⟩ : ∃ D, (dg (X1 * X2) c).length = D := ⟨_, rfl⟩
  rw [hD]
  have HDD : Hid (D = X1 * X2) := Lib.hid (by rw [← hD, len_dg])
  have HXX := Lib.hid hXX
  have hx1 : (X1 : Int) ≤ 2 := by omega
  have hx2 : (X2 : Int) ≤ 2 := by omega
  clear hD h h' hf ok1 ok2 x2 y2 x2' y2' hX1 hX2 hXX hX0 hc hA hmax hcap eq1 eq2 HPB HBE hP hy hz
  go_enter Try.func87, Try.ntmps87
  go_wp2_with fail
  go_loopw [11, 12, 13, 14, 15, 16] (fun bv rv z13 z14 z15 z16 wr => ∃ r : Nat, ∃ t : Int, r ≤ 4 ∧ rv = .int .i64 (r : Nat) ∧ bv = .int .i64 t ∧ 0 ≤ t ∧ t ≤ 39204 ∧ (∃ z, z13 = z) ∧ (∃ z, z14 = z) ∧ (∃ z, z15 = z) ∧ (∃ z, z16 = z) ∧ Hid (t = mx (fun r => P r (X1 * X2)) r) ∧ Hid (Gg w wr #[.int .i64 (X1 : Int), .int .i64 (Y1 : Int), .slice va vn vc, .slice ua un uc] #[.int .i64 (X2 : Int), .int .i64 (Y2 : Int), .slice va' vn' vc', .slice ua' un' uc'])) (fun _ j _ _ _ _ _ => 4 - (intOf j).toNat)
  case atStart => exact ⟨0, 0, Nat.zero_le _, rfl, rfl, by omega, by omega, ⟨_, rfl⟩, ⟨_, rfl⟩, ⟨_, rfl⟩, ⟨_, rfl⟩, Lib.hid rfl, F0⟩
  case round =>
    clear F0
    obtain ⟨r, t, hr, rfl, rfl, ht0, ht1, ⟨z13, rfl⟩, ⟨z14, rfl⟩, ⟨z15, rfl⟩, ⟨z16, rfl⟩, hT, hF⟩ := hrel
    obtain ⟨wo, rfl⟩ : ∃ wo : World, wo = wr := ⟨_, rfl⟩
    by_cases hlr : r < 4
    · have hkr : (r : Int) < 4 := by omega
      have HLR := Lib.hid hlr
      go_wp2_with fail
      go_loopw [13, 14, 15, 16] (fun sv xv z15 z16 wr => ∃ a : Nat, ∃ m : Int, a ≤ X1 ∧ xv = .int .i64 (a : Nat) ∧ sv = .int .i64 m ∧ 0 ≤ m ∧ m ≤ 39204 ∧ (∃ z, z15 = z) ∧ (∃ z, z16 = z) ∧ Hid (m = P r (a * X2)) ∧ Hid (Gg w wr #[.int .i64 (X1 : Int), .int .i64 (Y1 : Int), .slice va vn vc, .slice ua un uc] #[.int .i64 (X2 : Int), .int .i64 (Y2 : Int), .slice va' vn' vc', .slice ua' un' uc'])) (fun _ j _ _ _ => X1 - (intOf j).toNat)
      case atStart => exact ⟨0, 0, Nat.zero_le _, rfl, rfl, by omega, by omega, ⟨_, rfl⟩, ⟨_, rfl⟩, Lib.hid (by rw [Nat.zero_mul, HP0.out]), hF⟩
      case round =>
        clear hF
        obtain ⟨a, m, ha, rfl, rfl, hm0, hm1, ⟨z15, rfl⟩, ⟨z16, rfl⟩, hM, hF⟩ := hrel
        obtain ⟨wm, rfl⟩ : ∃ wo : World, wo = wr := ⟨_, rfl⟩
        obtain ⟨c0, c1, c2, c3, c4⟩ := four_cells hF.out.one
        by_cases hla : a < X1
        · have hka : (a : Int) < (X1 : Int) := by omega
          have HLA := Lib.hid hla
          go_wp2_with fail
          clear c0 c1 c2 c3 c4
          go_loopw [13, 15, 16] (fun sv xv z16 wr => ∃ b : Nat, ∃ m : Int, b ≤ X2 ∧ xv = .int .i64 (b : Nat) ∧ sv = .int .i64 m ∧ 0 ≤ m ∧ m ≤ 39204 ∧ (∃ z, z16 = z) ∧ Hid (m = P r (a * X2 + b)) ∧ Hid (Gg w wr #[.int .i64 (X1 : Int), .int .i64 (Y1 : Int), .slice va vn vc, .slice ua un uc] #[.int .i64 (X2 : Int), .int .i64 (Y2 : Int), .slice va' vn' vc', .slice ua' un' uc'])) (fun _ j _ _ => X2 - (intOf j).toNat)
          case atStart => exact ⟨0, m, Nat.zero_le _, rfl, rfl, hm0, hm1, ⟨_, rfl⟩, hM, hF⟩
          case round =>
            clear hF hM hm0 hm1
            obtain ⟨b, m, hb, rfl, rfl, hm0, hm1, ⟨z16, rfl⟩, hM, hF⟩ := hrel
            obtain ⟨wi, rfl⟩ : ∃ wo : World, wo = wr := ⟨_, rfl⟩
            obtain ⟨c0, c1, c2, c3, c4⟩ := four_cells hF.out.one
            obtain ⟨d0, d1, d2, d3, d4⟩ := four_cells hF.out.two
            by_cases hlb : b < X2
            · have hkb : (b : Int) < (X2 : Int) := by omega
              have HI : Hid (a * X2 + b < X1 * X2) := Lib.hid (by
                have g1 : a * X2 + b < (a + 1) * X2 := by rw [Nat.add_mul]; omega
                have g2 : (a + 1) * X2 ≤ X1 * X2 := Nat.mul_le_mul_right _ (by omega)
                omega)
              have f1 := below_cell hF.out.below _ _ (HPC.out _ HI.out)
              have HS := Lib.hid (HPS.out r a b hlb)
              have hbb := HBD.out r (a * X2 + (b + 1)) (by have := HI.out; have := HXX.out; omega)
              rw [HS.out, ← hM.out] at hbb
              have HS2 : Hid (P r (a * X2 + (b + 1)) = m + won ws xss (a * Y1 + y) (((c / 2 ^ (2 * (a * X2 + b)) % 4 / 2 : Nat) : Int)) ((r / 2 : Nat) : Int) * won vs yss (b * Y2 + z) (((c / 2 ^ (2 * (a * X2 + b)) % 4 % 2 : Nat) : Int)) ((r % 2 : Nat) : Int)) := Lib.hid (by rw [HS.out, hM.out])
              obtain ⟨T, hT2⟩ : ∃ T, a * X2 + b = T := ⟨_, rfl⟩
              have hti : (a : Int) * (X2 : Int) + (b : Int) = (T : Int) := by rw [← hT2]; simp
              rw [hT2] at f1 HS2 hbb HI
              have hs4 : c / 2 ^ (2 * T) % 4 < 4 := Nat.mod_lt _ (by omega)
              obtain ⟨s, hs⟩ : ∃ s, c / 2 ^ (2 * T) % 4 = s := ⟨_, rfl⟩
              rw [hs] at f1 HS2 hbb hs4
              have HCA := Lib.hid (fun W hW => HW1.out W a ((s / 2 : Nat) : Int) ((r / 2 : Nat) : Int) hW hla (by omega) (by omega))
              have HCB := Lib.hid (fun W hW => HW2.out W b ((s % 2 : Nat) : Int) ((r % 2 : Nat) : Int) hW hlb (by omega) (by omega))
              obtain ⟨r10, r11⟩ := HB1.out (a * Y1 + y) ((s / 2 : Nat) : Int) ((r / 2 : Nat) : Int)
              obtain ⟨r20, r21⟩ := HB2.out (b * Y2 + z) ((s % 2 : Nat) : Int) ((r % 2 : Nat) : Int)
              generalize won ws xss (a * Y1 + y) ((s / 2 : Nat) : Int) ((r / 2 : Nat) : Int) = r1 at HCA HS2 hbb r10 r11
              generalize won vs yss (b * Y2 + z) ((s % 2 : Nat) : Int) ((r % 2 : Nat) : Int) = r2 at HCB HS2 hbb r20 r21
              have HR : Hid (0 ≤ r1 * r2 ∧ r1 * r2 ≤ 9801) := Lib.hid ⟨Int.mul_nonneg r10 r20, Int.le_trans (Int.mul_le_mul r11 r21 r20 (by decide)) (by decide)⟩
              have hmw1 : IntKind.i64.wrap (r1 * r2) = r1 * r2 := IntWalk.i64_in _ (by have := HR.out; omega)
              have hmw2 : IntKind.i64.wrap (m + r1 * r2) = m + r1 * r2 := IntWalk.i64_in _ (by have := HR.out; omega)
              have hTl : (T : Int) < (D : Int) := by have := HDD.out; have := HI.out; omega
              have hTl' : T < D := by omega
              have hT4 : (T : Int) ≤ 4 := by have := HI.out; have := HXX.out; omega
              obtain ⟨Q, hQ⟩ : ∃ Q, a * X2 = Q := ⟨_, rfl⟩
              have hqi : (a : Int) * (X2 : Int) = (Q : Int) := by rw [← hQ]; simp
              have hQT : (Q : Int) + (b : Int) = (T : Int) := by omega
              have hwq : IntKind.i64.wrap ((a : Int) * (X2 : Int)) = (Q : Int) := by rw [hqi]; exact IntWalk.i64_in _ (by omega)
              have hwT : IntKind.i64.wrap ((Q : Int) + (b : Int)) = (T : Int) := by rw [hQT]; exact IntWalk.i64_in _ (by omega)
              have hso : bits .and .i64 ((s : Nat) : Int) 1 = ((s % 2 : Nat) : Int) := plg.and_one s
              have hro : bits .and .i64 ((r : Nat) : Int) 1 = ((r % 2 : Nat) : Int) := plg.and_one r
              have HLB := Lib.hid hlb
              have HTQ : Hid (a * X2 + (b + 1) = T + 1) := Lib.hid (by omega)
              clear r10 r11 r20 r21 hs HS HI hT2 hti hqi hQT hQ
              have e3 : ((s / 2 : Nat) : Int) = (s : Int) / 2 := by omega
              have e4 : ((r / 2 : Nat) : Int) = (r : Int) / 2 := by omega
              have e5 : ((s % 2 : Nat) : Int) = (s : Int) % 2 := by omega
              have e6 : ((r % 2 : Nat) : Int) = (r : Int) % 2 := by omega
              rw [e3, e4] at HCA
              rw [e5, e6] at HCB
              clear e3 e4 e5 e6
              go_wp2_with fail
              go_region_held3 (fun w' => w'.cell? ⟨w.heap.size, 0, none⟩ = some (.int .i64 (X1 : Int)) ∧ w'.cell? ⟨w.heap.size, 1, none⟩ = some (.int .i64 (Y1 : Int)) ∧ w'.cell? ⟨w.heap.size, 2, none⟩ = some (.slice va vn vc) ∧ w'.cell? ⟨w.heap.size, 3, none⟩ = some (.slice ua un uc) ∧ w'.cell? ⟨w.heap.size + 1, 0, none⟩ = some (.int .i64 (X2 : Int)) ∧ w'.cell? ⟨w.heap.size + 1, 1, none⟩ = some (.int .i64 (Y2 : Int)) ∧ w'.cell? ⟨w.heap.size + 1, 2, none⟩ = some (.slice va' vn' vc') ∧ w'.cell? ⟨w.heap.size + 1, 3, none⟩ = some (.slice ua' un' uc') ∧ Below wi.heap.size wi w')
                (((with_reducible refine held8 c0 c1 c2 c3 d0 d1 d2 d3 ?_); repeat (first | (with_reducible exact Below.refl _ _) | (with_reducible refine below_dr ?_) | (with_reducible refine below_tr ?_ (by assumption)))))
                (first
                  | (go_at_call 129; (with_reducible refine (HCA.out _ (below_tr hF.out.below ?_)).mono ?_); (repeat (first | (with_reducible exact Below.refl _ _) | (with_reducible refine below_dr ?_) | (with_reducible refine below_tr ?_ (by assumption)))); rintro e wq1 ⟨rfl, hq1⟩)
                  | (go_at_call 129; (with_reducible refine (HCB.out _ (below_tr hF.out.below ?_)).mono ?_); (repeat (first | (with_reducible exact Below.refl _ _) | (with_reducible refine below_dr ?_) | (with_reducible refine below_tr ?_ (by assumption)))); rintro e wq2 ⟨rfl, hq2⟩))
              have hbt : Below wi.heap.size wi wq2 := by repeat (first | (with_reducible exact Below.refl _ _) | (with_reducible refine below_dr ?_) | (with_reducible refine below_tr ?_ (by assumption)))
              have F3 := Lib.hid (hF.out.keep hbt)
              clear hbt hq1 hq2 c0 c1 c2 c3 c4 d0 d1 d2 d3 d4 hF f1 hwq hwT hso hro HCA HCB
              go_wp2_with fail
              go_roundw
              case rel => exact ⟨b + 1, m + r1 * r2, by have := HLB.out; omega, by go_num, rfl, by omega, by omega, ⟨_, rfl⟩, Lib.hid HS2.out.symm, F3⟩
              case measure => have := HLB.out; simp [intOf]; omega
            · have hkb : ¬ (b : Int) < (X2 : Int) := by omega
              obtain rfl : b = X2 := by omega
              have HM2 : Hid (m = P r ((a + 1) * b)) := Lib.hid (by rw [Nat.add_mul, Nat.one_mul]; exact hM.out)
              go_wp2_with fail
              go_roundw
              case rel => exact ⟨a + 1, m, by have := HLA.out; omega, by go_num, rfl, by omega, by omega, ⟨_, rfl⟩, ⟨_, rfl⟩, HM2, hF⟩
              case measure => have := HLA.out; simp [intOf]; omega
        · have hka : ¬ (a : Int) < (X1 : Int) := by omega
          obtain rfl : a = X1 := by omega
          by_cases hmx : t < m
          · have HN : Hid (m = mx (fun r => P r (a * X2)) (r + 1)) := Lib.hid (mx_yes hT.out hM.out.symm hmx)
            have HIF : Hid ((if t < m then m else t) = m) := Lib.hid (if_pos hmx)
            go_wp2_with fail
            refine (lmm.most_any t m _).mono ?_
            rintro e w' ⟨rfl, rfl⟩
            rw [HIF.out]
            go_wp2_with fail
            go_roundw
            case rel => exact ⟨r + 1, m, by have := HLR.out; omega, by go_num, rfl, by omega, by omega, ⟨_, rfl⟩, ⟨_, rfl⟩, ⟨_, rfl⟩, ⟨_, rfl⟩, HN, hF⟩
            case measure => have := HLR.out; simp [intOf]; omega
          · have HN : Hid (t = mx (fun r => P r (a * X2)) (r + 1)) := Lib.hid (mx_no hT.out hM.out.symm hmx)
            have HIF : Hid ((if t < m then m else t) = t) := Lib.hid (if_neg hmx)
            go_wp2_with fail
            refine (lmm.most_any t m _).mono ?_
            rintro e w' ⟨rfl, rfl⟩
            rw [HIF.out]
            go_wp2_with fail
            go_roundw
            case rel => exact ⟨r + 1, t, by have := HLR.out; omega, by go_num, rfl, by omega, by omega, ⟨_, rfl⟩, ⟨_, rfl⟩, ⟨_, rfl⟩, ⟨_, rfl⟩, HN, hF⟩
            case measure => have := HLR.out; simp [intOf]; omega
    · have hkr : ¬ (r : Int) < 4 := by omega
      obtain rfl : r = 4 := by omega
      go_wp2_with fail
      go_ret
      exact ⟨ret_int hT.out, hF.out.below⟩

end Go.Proofs.Ytimfnhejiiagmaa.bvr
