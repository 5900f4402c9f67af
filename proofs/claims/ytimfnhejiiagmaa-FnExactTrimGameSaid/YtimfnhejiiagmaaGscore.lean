/- The score of a play of a Game, of both sides. -/
import Derived.Test.YtimfnhejiiagmaaGwon
import Derived.Test.YtimfnhejiiagmaaWorth
import Derived.Test.YtimfnhejiiagmaaGtot
namespace Go.Proofs.Ytimfnhejiiagmaa.gscore
open Go.RowKit Go.Deep Go.Proofs.Ytimfnhejiiagmaa.base
open Go.Proofs.Ytimfnhejiiagmaa.ints (ret_int)
open Go.Proofs.Ytimfnhejiiagmaa.val (okSizes)
open Go.Proofs.Ytimfnhejiiagmaa.gval (okGame)
open Go.Proofs.Ytimfnhejiiagmaa.play (within)
open Go.Proofs.Ytimfnhejiiagmaa.row (at_)
open Go.Proofs.Ytimfnhejiiagmaa.gwon (won won_bd)

theorem at_cast (Y a c : Nat) : at_ (Y : Int) (a : Int) (c : Int) = a * Y + c := by
  unfold at_
  have : ((a : Int) * (Y : Int) + (c : Int)) = ((a * Y + c : Nat) : Int) := by simp
  rw [this, Int.toNat_natCast]
/-- what a play wins for the pair t -/
def term (X Y : Nat) (ws : List Int) (xss : List (List Int)) (p : List Int) (t : Nat) : Int := won ws xss t (p.getD (t / Y) 0) (p.getD (X + t % Y) 0)
def score (X Y : Nat) (ws : List Int) (xss : List (List Int)) (p : List Int) : Int := worth.cum (term X Y ws xss p) (X * Y)
theorem term_at {X Y a c : Nat} {ws : List Int} {xss : List (List Int)} {p : List Int} (h : c < Y) : term X Y ws xss p (a * Y + c) = won ws xss (a * Y + c) (p.getD a 0) (p.getD (X + c) 0) := by
  unfold term
  have e1 : (a * Y + c) / Y = a := by
    rw [Nat.add_comm, Nat.add_mul_div_right _ _ (by omega), Nat.div_eq_of_lt h, Nat.zero_add]
  have e2 : (a * Y + c) % Y = c := by rw [Nat.add_comm, Nat.add_mul_mod_self_right, Nat.mod_eq_of_lt h]
  rw [e1, e2]
theorem score_bd {X Y : Nat} {ws : List Int} {xss : List (List Int)} (h : okGame X Y ws xss) (p : List Int) (n : Nat) (hn : n ≤ X * Y) : 0 ≤ worth.cum (term X Y ws xss p) n ∧ worth.cum (term X Y ws xss p) n ≤ 891 := by
  have h9 : X * Y ≤ 9 := by have := (val.mul_small h.1).2; exact_mod_cast this
  have : ∀ n : Nat, 0 ≤ worth.cum (term X Y ws xss p) n ∧ worth.cum (term X Y ws xss p) n ≤ 99 * n := by
    intro n
    induction n with
    | zero => simp [worth.cum]
    | succ n ih =>
      have h2 := won_bd h n (p.getD (n / Y) 0) (p.getD (X + n % Y) 0)
      have e : worth.cum (term X Y ws xss p) (n + 1) = worth.cum (term X Y ws xss p) n + won ws xss n (p.getD (n / Y) 0) (p.getD (X + n % Y) 0) := rfl
      rw [e]; omega
  have := this n
  omega
theorem held6 {w w' : World} {p1 p2 p3 p4 p5 p6 : Addr} {u1 u2 u3 u4 u5 u6 : Value} (h1 : w.cell? p1 = some u1) (h2 : w.cell? p2 = some u2) (h3 : w.cell? p3 = some u3) (h4 : w.cell? p4 = some u4)
    (h5 : w.cell? p5 = some u5) (h6 : w.cell? p6 = some u6) (hb : Below w.heap.size w w') :
    w'.cell? p1 = some u1 ∧ w'.cell? p2 = some u2 ∧ w'.cell? p3 = some u3 ∧ w'.cell? p4 = some u4 ∧ w'.cell? p5 = some u5 ∧ w'.cell? p6 = some u6 ∧ Below w.heap.size w w' :=
  ⟨below_cell hb _ _ h1, below_cell hb _ _ h2, below_cell hb _ _ h3, below_cell hb _ _ h4, below_cell hb _ _ h5, below_cell hb _ _ h6, hb⟩




set_option maxRecDepth 100000 in
set_option maxHeartbeats 4000000 in
theorem scoreof (X Y : Nat) (v : Value) (ws : List Int) (u : Value) (xss : List (List Int)) (pv : Value) (p : List Int) (w : World) (h : game.GV w v ws u xss) (hp : Ints w pv p) (hok : okGame X Y ws xss) (hpl : within ((X : Int) + Y) 0 1 p) :
    Calls Try.prog 219 #[.agg #[.int .i64 (X : Int), .int .i64 (Y : Int), v, u], pv] w fun e w' => e = .returned (.int .i64 (score X Y ws xss p)) ∧ Below w.heap.size w w' := by
  have HW : Hid (∀ (W : World) (a c : Nat) (s t : Int), Below w.heap.size w W → a < X → c < Y → (s = 0 ∨ s = 1) → (t = 0 ∨ t = 1) → Calls Try.prog 197 #[.agg #[.int .i64 (X : Int), .int .i64 (Y : Int), v, u], .int .i64 (a : Int), .int .i64 (c : Int), .int .i64 s, .int .i64 t] W fun e w' => e = .returned (.int .i64 (won ws xss (a * Y + c) s t)) ∧ Below W.heap.size W w') := Lib.hid (fun W a c s t hW ha hc hs ht => by
    have := gwon.iwon X Y a c s t v ws u xss W (h.below hW) hok (by omega) (by omega) (by omega) (by omega) hs ht
    rw [at_cast] at this
    exact this)
  obtain ⟨hX, hY⟩ := hok.1
  obtain ⟨va, vn, vc, ua, un, uc, rfl, rfl⟩ := h.shape
  obtain ⟨P, pb, po, pcap, rfl, hcap, hmax, hA, hc⟩ := hp.form
  have hpl0 : p.length = X + Y := by have := hpl.1; omega
  obtain rfl := hA (by omega)
  have HPC : Hid (∀ k, k < X + Y → w.cell? ⟨pb, po + k, none⟩ = some (.int .i64 (p.getD k 0)) ∧ (p.getD k 0 = 0 ∨ p.getD k 0 = 1)) := Lib.hid (fun k hk => by
    have h1 := hc k (by omega)
    have h2 := hpl.2 k (by omega)
    have e : p.getD k 0 = p[k]'(by omega) := by rw [List.getD_eq_getElem?_getD, List.getElem?_eq_getElem (by omega)]; rfl
    rw [e]
    exact ⟨h1, by omega⟩)
  have HSB := Lib.hid (fun n => score_bd hok p n)
  have B0 := Lib.hid (below_al (Below.refl w.heap.size w) (.cells #[.int .i64 (X : Int), .int .i64 (Y : Int), .slice va vn vc, .slice ua un uc] 40))
  have K0 := Lib.hid (Blk.new w 40 #[.int .i64 (X : Int), .int .i64 (Y : Int), .slice va vn vc, .slice ua un uc])
  have HPL := Lib.hid hpl0
  have hX2 : (X : Int) ≤ 3 := hX.2
  have hY2 : (Y : Int) ≤ 3 := hY.2
  have HOK := Lib.hid hok
  have hPB : Hid (pb < w.heap.size) := Lib.hid (World.block_lt_of_cell? _ _ (HPC.out 0 (by omega)).1)
  clear h hp hok hpl hc hA hmax hcap hX hY hpl0
  go_enter Try.func219, Try.ntmps219
  obtain ⟨c0, c1, c2, c3, c4⟩ := four_cells K0.out
  go_wp2_with fail
  clear c0 c1 c2 c3 c4
  go_loopw [5, 10] (fun s i wr => ∃ a : Nat, ∃ q : Int, a ≤ X ∧ i = .int .i64 a ∧ s = .int .i64 q ∧ 0 ≤ q ∧ q ≤ 891 ∧ Hid (q = worth.cum (term X Y ws xss p) (a * Y)) ∧ Hid (Below w.heap.size w wr) ∧ Hid (Blk wr w.heap.size 40 #[.int .i64 (X : Int), .int .i64 (Y : Int), .slice va vn vc, .slice ua un uc])) (fun _ i _ => X - (intOf i).toNat)
  case atStart => exact ⟨0, 0, Nat.zero_le _, rfl, rfl, by omega, by omega, Lib.hid (by rw [Nat.zero_mul]; rfl), B0, K0⟩
  case round =>
    obtain ⟨a, q, ha, rfl, rfl, hq0, hq1, hQ, hB, hK⟩ := hrel
    clear B0 K0
    obtain ⟨wo, rfl⟩ : ∃ wo : World, wo = wr := ⟨_, rfl⟩
    obtain ⟨c0, c1, c2, c3, c4⟩ := four_cells hK.out
    by_cases hlt : a < X
    · have hkz : (a : Int) < (X : Int) := by omega
      go_wp2_with fail
      clear c0 c1 c2 c3 c4
      go_loopw [5, 15] (fun s j wi => ∃ c : Nat, ∃ q : Int, c ≤ Y ∧ j = .int .i64 c ∧ s = .int .i64 q ∧ 0 ≤ q ∧ q ≤ 891 ∧ Hid (q = worth.cum (term X Y ws xss p) (a * Y + c)) ∧ Hid (Below w.heap.size w wi) ∧ Hid (Blk wi w.heap.size 40 #[.int .i64 (X : Int), .int .i64 (Y : Int), .slice va vn vc, .slice ua un uc])) (fun _ j _ => Y - (intOf j).toNat)
      case atStart => exact ⟨0, q, Nat.zero_le _, rfl, rfl, hq0, hq1, hQ, hB, hK⟩
      case round =>
        clear hQ hB hK hq0 hq1
        obtain ⟨c, q, hcY, rfl, rfl, hq0, hq1, hQ, hB, hK⟩ := hrel
        obtain ⟨wi, rfl⟩ : ∃ wi : World, wi = wr := ⟨_, rfl⟩
        obtain ⟨c0, c1, c2, c3, c4⟩ := four_cells hK.out
        by_cases hlc : c < Y
        · have hkc : (c : Int) < (Y : Int) := by omega
          obtain ⟨f1, t1⟩ := HPC.out a (by omega)
          obtain ⟨f2, t2⟩ := HPC.out (X + c) (by omega)
          have f1 := below_cell hB.out _ _ f1
          have f2 := below_cell hB.out _ _ f2
          have HCA := Lib.hid (fun W hW => HW.out W a c _ _ hW hlt hlc t1 t2)
          have HST : Hid (worth.cum (term X Y ws xss p) (a * Y + (c + 1)) = q + won ws xss (a * Y + c) (p.getD a 0) (p.getD (X + c) 0)) := Lib.hid (by rw [hQ.out, ← term_at hlc]; rfl)
          have hbb := HSB.out (a * Y + (c + 1)) (by have h1 : a * Y + c < (a + 1) * Y := by (rw [Nat.add_mul]; omega)
                                                    have h2 : (a + 1) * Y ≤ X * Y := Nat.mul_le_mul_right _ (by omega)
                                                    omega)
          rw [HST.out] at hbb
          have hpX : (X : Int) + (c : Int) < ((p.length : Nat) : Int) := by have := HPL.out; omega
          have hpa : (a : Int) < ((p.length : Nat) : Int) := by have := HPL.out; omega
          have f2 : wi.cell? ⟨pb, po + ((X : Int) + (c : Int)).toNat, none⟩ = some (.int .i64 (p.getD (X + c) 0)) := by
            rw [show ((X : Int) + (c : Int)).toNat = X + c from by omega]; exact f2
          have HT1 := Lib.hid t1
          have HT2 := Lib.hid t2
          clear t1 t2
          generalize p.getD a 0 = s1 at *
          generalize p.getD (X + c) 0 = s2 at *
          generalize won ws xss (a * Y + c) s1 s2 = r at *
          obtain ⟨hb0, hb1⟩ := hbb
          have hwr1 : IntKind.i64.wrap ((X : Int) + (c : Int)) = (X : Int) + (c : Int) := IntWalk.i64_in _ (by omega)
          have hwr2 : IntKind.i64.wrap (q + r) = q + r := IntWalk.i64_in _ (by omega)
          have hwr3 : (0 : Int) ≤ (X : Int) + (c : Int) := by omega
          go_wp2_with fail
          go_region_held3 (fun w' => w'.cell? ⟨w.heap.size, 0, none⟩ = some (.int .i64 (X : Int)) ∧ w'.cell? ⟨w.heap.size, 1, none⟩ = some (.int .i64 (Y : Int)) ∧ w'.cell? ⟨w.heap.size, 2, none⟩ = some (.slice va vn vc) ∧ w'.cell? ⟨w.heap.size, 3, none⟩ = some (.slice ua un uc) ∧ w'.cell? ⟨pb, po + a, none⟩ = some (.int .i64 s1) ∧ w'.cell? ⟨pb, po + ((X : Int) + (c : Int)).toNat, none⟩ = some (.int .i64 s2) ∧ Below wi.heap.size wi w')
            (((with_reducible refine held6 c0 c1 c2 c3 f1 f2 ?_); repeat (first | (with_reducible exact Below.refl _ _) | (with_reducible refine below_dr ?_) | (with_reducible refine below_tr ?_ (by assumption)))))
            (first
              | (go_at_call 197; (with_reducible refine (HCA.out _ (below_tr hB.out ?_)).mono ?_); (repeat (first | (with_reducible exact Below.refl _ _) | (with_reducible refine below_dr ?_) | (with_reducible refine below_tr ?_ (by assumption)))); rintro e wq1 ⟨rfl, hq1⟩))
          have hbt : Below wi.heap.size wi wq1 := by repeat (first | (with_reducible exact Below.refl _ _) | (with_reducible refine below_dr ?_) | (with_reducible refine below_tr ?_ (by assumption)))
          have B2 := Lib.hid (below_tr hB.out hbt)
          have K2 := Lib.hid (hK.out.below hbt)
          clear c0 c1 c2 c3 c4 f1 f2 hq1 hbt hwr1 hwr2 hwr3 hB hK
          go_wp2_with fail
          go_roundw
          case rel => exact ⟨c + 1, _, by omega, by go_num, rfl, by omega, by omega, Lib.hid HST.out.symm, B2, K2⟩
          case measure => simp [intOf]; omega
        · have hkc : ¬ (c : Int) < (Y : Int) := by omega
          obtain rfl : c = Y := by omega
          go_wp2_with fail
          go_roundw
          case rel => exact ⟨a + 1, q, by omega, by go_num, rfl, hq0, hq1, Lib.hid (by rw [Nat.add_mul, Nat.one_mul]; exact hQ.out), hB, hK⟩
          case measure => simp [intOf]; omega
    · have hkz : ¬ (a : Int) < (X : Int) := by omega
      obtain rfl : a = X := by omega
      go_wp2_with fail
      go_ret
      exact ⟨ret_int hQ.out, hB.out⟩


end Go.Proofs.Ytimfnhejiiagmaa.gscore
