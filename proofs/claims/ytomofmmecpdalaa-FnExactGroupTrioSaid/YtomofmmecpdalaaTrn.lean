/- The numbers of a Trio: number and turnedNumber of the program. -/
import Derived.Test.YtomofmmecpdalaaTrv
import Derived.Test.YtomofmmecpdalaaTrb
import Derived.Test.YtomofmmecpdalaaHld
import Derived.Deep.RegionHeld3
namespace Go.Proofs.Ytomofmmecpdalaa.trn
open Go.RowKit Go.Deep Go.Proofs.Ytomofmmecpdalaa.base
open Go.Proofs.Ytomofmmecpdalaa.tri (two_cells)
open Go.Proofs.Ytomofmmecpdalaa.trb (b3 b2 tb tw three_cells place3_g turn_g)
open Go.Proofs.Ytomofmmecpdalaa.hld
open Go.Proofs.Ytomofmmecpdalaa.trv (okTrio)

def tc (xss : List (List Int)) (q k : Nat) : Int := (xss.getD q []).getD k 0
def shape (xss : List (List Int)) : Prop := xss.length = 8 ∧ ∀ q, q < 8 → (xss.getD q []).length = 8
theorem getD_at {α : Type} {xs : List α} {d : α} {k : Nat} (h : k < xs.length) : xs.getD k d = xs[k] := by simp [List.getD, h]
theorem shape_of {wh : Int} {xss : List (List Int)} (h : okTrio wh xss) : shape xss := ⟨h.2.1, fun q hq => by
  have hl := h.2.1
  have hql : q < xss.length := by omega
  rw [getD_at hql]
  exact (h.2.2 q hql).1⟩
theorem tc_in {wh : Int} {xss : List (List Int)} (h : okTrio wh xss) {q k : Nat} (hq : q < 8) (hk : k < 8) : 0 ≤ tc xss q k ∧ tc xss q k ≤ 1000 := by
  have hl := h.2.1
  obtain ⟨h1, h2, _⟩ := h.2.2 q (by omega)
  have hql : q < xss.length := by omega
  have hkl : k < xss[q].length := by rw [h1]; exact hk
  unfold tc
  rw [getD_at hql, getD_at hkl]
  have := h2 k hkl
  have := h.1.2
  omega
/-- a Trio's rows in memory, cell by cell -/
theorem forms {w : World} {v : Value} {xss : List (List Int)} (h : IRows w v xss) (hs : shape xss) :
    ∃ (b o cap : Nat) (rb ro rc : Nat → Nat), v = .slice (some ⟨b, o, none⟩) 8 cap ∧ (∀ q, q < 8 → w.cell? ⟨b, o + q, none⟩ = some (.slice (some ⟨rb q, ro q, none⟩) 8 (rc q))) ∧
      ∀ q, q < 8 → ∀ k, k < 8 → w.cell? ⟨rb q, ro q + k, none⟩ = some (.int .i64 (tc xss q k)) := by
  obtain ⟨A, b, o, cap, R, rfl, hcap, hmax, hA, hc⟩ := h.form
  obtain ⟨hl, hr⟩ := hs
  obtain rfl := hA (by omega)
  have key : ∀ q : Nat, ∃ (x y z : Nat), q < 8 → (R q = .slice (some ⟨x, y, none⟩) 8 z ∧ ∀ k, k < 8 → w.cell? ⟨x, y + k, none⟩ = some (.int .i64 (tc xss q k))) := by
    intro q
    by_cases hq : q < 8
    · have hql : q < xss.length := by omega
      obtain ⟨_, hi⟩ := hc q hql
      have hl8 : xss[q].length = 8 := by have := hr q hq; rw [getD_at hql] at this; exact this
      obtain ⟨A', b', o', cap', e, _, _, hA', hc'⟩ := hi.form
      obtain rfl := hA' (by omega)
      refine ⟨b', o', cap', fun _ => ⟨by rw [e, hl8], fun k hk => ?_⟩⟩
      have hkl : k < xss[q].length := by rw [hl8]; exact hk
      have := hc' k hkl
      rw [this]
      unfold tc
      rw [getD_at hql, getD_at hkl]
    · exact ⟨0, 0, 0, fun h => absurd h hq⟩
  refine ⟨b, o, cap, fun q => (key q).choose, fun q => (key q).choose_spec.choose, fun q => (key q).choose_spec.choose_spec.choose, by rw [hl], fun q hq => ?_, fun q hq k hk => ?_⟩
  · have h1 := (hc q (by omega)).1
    have h2 := ((key q).choose_spec.choose_spec.choose_spec hq).1
    rw [h1, h2]
  · exact ((key q).choose_spec.choose_spec.choose_spec hq).2 k hk


theorem place_q {a b c : Int} {q : Nat} (ha : 0 ≤ a ∧ a ≤ 1) (hb : 0 ≤ b ∧ b ≤ 1) (hc : 0 ≤ c ∧ c ≤ 1) (hq : 4 * a + 2 * b + c = (q : Int)) (w : World) :
    Calls Try.prog 74 #[.agg #[.int .i64 a, .int .i64 b, .int .i64 c]] w fun e w' => e = .returned (.int .i64 (q : Int)) ∧ Below w.heap.size w w' := by
  have := place3_g a b c w ha hb hc
  rw [hq] at this
  exact this



set_option maxHeartbeats 2000000 in
theorem number_g (wh : Int) (v : Value) (xss : List (List Int)) (a b c x y z : Int) (q k : Nat) (w : World) (h : IRows w v xss) (hs : shape xss) (ha : 0 ≤ a ∧ a ≤ 1) (hb : 0 ≤ b ∧ b ≤ 1) (hc : 0 ≤ c ∧ c ≤ 1) (hd : 0 ≤ x ∧ x ≤ 1) (he : 0 ≤ y ∧ y ≤ 1) (hf : 0 ≤ z ∧ z ≤ 1)
    (hq : 4 * a + 2 * b + c = (q : Int)) (hk : 4 * x + 2 * y + z = (k : Int)) :
    Calls Try.prog 78 #[.agg #[.int .i64 wh, v], .agg #[.int .i64 a, .int .i64 b, .int .i64 c], .agg #[.int .i64 x, .int .i64 y, .int .i64 z]] w fun e w' => e = .returned (.int .i64 (tc xss q k)) ∧ Below w.heap.size w w' := by
  obtain ⟨B, o, cap, rb, ro, rc, rfl, h1, h2⟩ := forms h hs
  have q8 : q < 8 := by omega
  have k8 : k < 8 := by omega
  have qz : (q : Int) < 8 := by omega
  have kz : (k : Int) < 8 := by omega
  have HP1 := Lib.hid (place_q ha hb hc hq)
  have HP2 := Lib.hid (place_q hd he hf hk)
  have x1 := h1 q q8
  have x2 := h2 q q8 k k8
  clear h1 h2 h hs ha hb hc hd he hf hq hk q8 k8
  obtain ⟨W0, hW0⟩ : ∃ W, W = (((w.alloc (.cells #[.int .i64 wh, .slice (some ⟨B, o, none⟩) 8 cap] 27)).alloc (.cells #[.int .i64 a, .int .i64 b, .int .i64 c] 76)).alloc (.cells #[.int .i64 x, .int .i64 y, .int .i64 z] 76)) := ⟨_, rfl⟩
  have Kt : Hid (Blk W0 (w.heap.size) 27 #[.int .i64 wh, .slice (some ⟨B, o, none⟩) 8 cap]) := Lib.hid (by rw [hW0]; have := (((Blk.new w 27 #[.int .i64 wh, .slice (some ⟨B, o, none⟩) 8 cap]).alloc (.cells #[.int .i64 a, .int .i64 b, .int .i64 c] 76)).alloc (.cells #[.int .i64 x, .int .i64 y, .int .i64 z] 76)); simpa using this)
  have Ka : Hid (Blk W0 (w.heap.size + 1) 76 #[.int .i64 a, .int .i64 b, .int .i64 c]) := Lib.hid (by rw [hW0]; have := ((Blk.new (w.alloc (.cells #[.int .i64 wh, .slice (some ⟨B, o, none⟩) 8 cap] 27)) 76 #[.int .i64 a, .int .i64 b, .int .i64 c]).alloc (.cells #[.int .i64 x, .int .i64 y, .int .i64 z] 76)); simpa using this)
  have Kb : Hid (Blk W0 (w.heap.size + 1 + 1) 76 #[.int .i64 x, .int .i64 y, .int .i64 z]) := Lib.hid (by rw [hW0]; have := (Blk.new ((w.alloc (.cells #[.int .i64 wh, .slice (some ⟨B, o, none⟩) 8 cap] 27)).alloc (.cells #[.int .i64 a, .int .i64 b, .int .i64 c] 76)) 76 #[.int .i64 x, .int .i64 y, .int .i64 z]); simpa using this)
  have BW0 : Hid (Below w.heap.size w W0) := Lib.hid (by rw [hW0]; exact (below_al (below_al (below_al (Below.refl _ _) _) _) _))
  have X1 := Lib.hid (below_cell BW0.out _ _ x1)
  have X2 := Lib.hid (below_cell BW0.out _ _ x2)
  clear x1 x2
  go_enter Try.func78, Try.ntmps78
  go_wp2_with fail
  rw [← hW0]
  clear hW0
  obtain ⟨t0, t1, _⟩ := two_cells Kt.out
  obtain ⟨a0, a1, a2, _⟩ := three_cells Ka.out
  obtain ⟨b0, b1, b2, _⟩ := three_cells Kb.out
  have x1 := X1.out
  have x2 := X2.out
  go_region_held3 (fun w' => w'.cell? ⟨w.heap.size, 1, none⟩ = some (.slice (some ⟨B, o, none⟩) 8 cap) ∧ w'.cell? ⟨w.heap.size + 1, 0, none⟩ = some (.int .i64 a) ∧ w'.cell? ⟨w.heap.size + 1, 1, none⟩ = some (.int .i64 b) ∧ w'.cell? ⟨w.heap.size + 1, 2, none⟩ = some (.int .i64 c) ∧ w'.cell? ⟨w.heap.size + 1 + 1, 0, none⟩ = some (.int .i64 x) ∧ w'.cell? ⟨w.heap.size + 1 + 1, 1, none⟩ = some (.int .i64 y) ∧ w'.cell? ⟨w.heap.size + 1 + 1, 2, none⟩ = some (.int .i64 z) ∧ w'.cell? ⟨B, o + q, none⟩ = some (.slice (some ⟨rb q, ro q, none⟩) 8 (rc q)) ∧ w'.cell? ⟨rb q, ro q + k, none⟩ = some (.int .i64 (tc xss q k)) ∧ Below W0.heap.size W0 w')
    ((refine held9 rfl t1 a0 a1 a2 b0 b1 b2 x1 x2 ?_; repeat (first | (with_reducible exact Below.refl _ _) | (with_reducible refine below_dr ?_) | (with_reducible refine below_tr ?_ (by assumption)))))
    (first | (go_at_call 74; (with_reducible refine (HP1.out _).mono ?_); rintro e w1 ⟨rfl, hb1⟩) | (go_at_call 74; (with_reducible refine (HP2.out _).mono ?_); rintro e w2 ⟨rfl, hb2⟩))
  go_wp2_with fail
  go_ret
  refine ⟨rfl, below_tr BW0.out ?_⟩
  repeat (first | (with_reducible exact Below.refl _ _) | (with_reducible refine below_dr ?_) | (with_reducible refine below_tr ?_ (by assumption)))



set_option maxHeartbeats 2000000 in
theorem turned_g (wh : Int) (v : Value) (xss : List (List Int)) (a b c x y z : Int) (q k : Nat) (w : World) (h : IRows w v xss) (hs : shape xss) (ha : 0 ≤ a ∧ a ≤ 1) (hb : 0 ≤ b ∧ b ≤ 1) (hc : 0 ≤ c ∧ c ≤ 1) (hd : 0 ≤ x ∧ x ≤ 1) (he : 0 ≤ y ∧ y ≤ 1) (hf : 0 ≤ z ∧ z ≤ 1)
    (hq : 4 * b + 2 * c + a = (q : Int)) (hk : 4 * y + 2 * z + x = (k : Int)) :
    Calls Try.prog 85 #[.agg #[.int .i64 wh, v], .agg #[.int .i64 a, .int .i64 b, .int .i64 c], .agg #[.int .i64 x, .int .i64 y, .int .i64 z]] w fun e w' => e = .returned (.int .i64 (tc xss q k)) ∧ Below w.heap.size w w' := by
  obtain ⟨va, vn, vc, rfl⟩ := h.shape
  have HP1 := Lib.hid (fun W => (show Calls Try.prog 106 #[.agg #[.int .i64 a, .int .i64 b, .int .i64 c]] W fun e w' => e = .returned (.agg #[.int .i64 b, .int .i64 c, .int .i64 a]) ∧ Below W.heap.size W w' from turn_g a b c W))
  have HP2 := Lib.hid (fun W => (show Calls Try.prog 106 #[.agg #[.int .i64 x, .int .i64 y, .int .i64 z]] W fun e w' => e = .returned (.agg #[.int .i64 y, .int .i64 z, .int .i64 x]) ∧ Below W.heap.size W w' from turn_g x y z W))
  obtain ⟨W0, hW0⟩ : ∃ W, W = (((w.alloc (.cells #[.int .i64 wh, .slice va vn vc] 27)).alloc (.cells #[.int .i64 a, .int .i64 b, .int .i64 c] 76)).alloc (.cells #[.int .i64 x, .int .i64 y, .int .i64 z] 76)) := ⟨_, rfl⟩
  have Kt : Hid (Blk W0 (w.heap.size) 27 #[.int .i64 wh, .slice va vn vc]) := Lib.hid (by rw [hW0]; have := (((Blk.new w 27 #[.int .i64 wh, .slice va vn vc]).alloc (.cells #[.int .i64 a, .int .i64 b, .int .i64 c] 76)).alloc (.cells #[.int .i64 x, .int .i64 y, .int .i64 z] 76)); simpa using this)
  have Ka : Hid (Blk W0 (w.heap.size + 1) 76 #[.int .i64 a, .int .i64 b, .int .i64 c]) := Lib.hid (by rw [hW0]; have := ((Blk.new (w.alloc (.cells #[.int .i64 wh, .slice va vn vc] 27)) 76 #[.int .i64 a, .int .i64 b, .int .i64 c]).alloc (.cells #[.int .i64 x, .int .i64 y, .int .i64 z] 76)); simpa using this)
  have Kb : Hid (Blk W0 (w.heap.size + 1 + 1) 76 #[.int .i64 x, .int .i64 y, .int .i64 z]) := Lib.hid (by rw [hW0]; have := (Blk.new ((w.alloc (.cells #[.int .i64 wh, .slice va vn vc] 27)).alloc (.cells #[.int .i64 a, .int .i64 b, .int .i64 c] 76)) 76 #[.int .i64 x, .int .i64 y, .int .i64 z]); simpa using this)
  have BW0 : Hid (Below w.heap.size w W0) := Lib.hid (by rw [hW0]; exact (below_al (below_al (below_al (Below.refl _ _) _) _) _))
  have HN := Lib.hid (fun (W : World) (hW : Below W0.heap.size W0 W) => number_g wh _ xss b c a y z x q k W ((h.below BW0.out).below hW) hs hb hc ha he hf hd hq hk)
  clear h hs ha hb hc hd he hf hq hk
  go_enter Try.func85, Try.ntmps85
  go_wp2_with fail
  rw [← hW0]
  clear hW0
  obtain ⟨t0, t1, _⟩ := two_cells Kt.out
  obtain ⟨a0, a1, a2, _⟩ := three_cells Ka.out
  obtain ⟨b0, b1, b2, _⟩ := three_cells Kb.out
  go_region_held3 (fun w' => w'.cell? ⟨w.heap.size, 0, none⟩ = some (.int .i64 wh) ∧ w'.cell? ⟨w.heap.size, 1, none⟩ = some (.slice va vn vc) ∧ w'.cell? ⟨w.heap.size + 1, 0, none⟩ = some (.int .i64 a) ∧ w'.cell? ⟨w.heap.size + 1, 1, none⟩ = some (.int .i64 b) ∧ w'.cell? ⟨w.heap.size + 1, 2, none⟩ = some (.int .i64 c) ∧ w'.cell? ⟨w.heap.size + 1 + 1, 0, none⟩ = some (.int .i64 x) ∧ w'.cell? ⟨w.heap.size + 1 + 1, 1, none⟩ = some (.int .i64 y) ∧ w'.cell? ⟨w.heap.size + 1 + 1, 2, none⟩ = some (.int .i64 z) ∧ Below W0.heap.size W0 w')
    ((refine hld.held8 rfl t0 t1 a0 a1 a2 b0 b1 b2 ?_; repeat (first | (with_reducible exact Below.refl _ _) | (with_reducible refine below_dr ?_) | (with_reducible refine below_tr ?_ (by assumption)))))
    (first | (go_at_call 106; (with_reducible refine (HP1.out _).mono ?_); rintro e w1 ⟨rfl, hb1⟩) | (go_at_call 106; (with_reducible refine (HP2.out _).mono ?_); rintro e w2 ⟨rfl, hb2⟩) | (go_at_call 78; (with_reducible refine (HN.out _ (by repeat (first | (with_reducible exact Below.refl _ _) | (with_reducible refine below_dr ?_) | (with_reducible refine below_tr ?_ (by assumption))))).mono ?_); rintro e w3 ⟨rfl, hb3⟩))
  go_wp2_with fail
  go_ret
  refine ⟨rfl, below_tr BW0.out ?_⟩
  repeat (first | (with_reducible exact Below.refl _ _) | (with_reducible refine below_dr ?_) | (with_reducible refine below_tr ?_ (by assumption)))


end Go.Proofs.Ytomofmmecpdalaa.trn
