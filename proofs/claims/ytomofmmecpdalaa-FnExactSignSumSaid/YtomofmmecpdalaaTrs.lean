/- The sign sum and the group sum of a Trio: both sides. -/
import Derived.Test.YtomofmmecpdalaaTra
namespace Go.Proofs.Ytomofmmecpdalaa.trs
open Go.RowKit Go.Deep Go.Proofs.Ytomofmmecpdalaa.base
open Go.Proofs.Ytomofmmecpdalaa.rws (total)
open Go.Proofs.Ytomofmmecpdalaa.tri (two_cells)
open Go.Proofs.Ytomofmmecpdalaa.trb (at3 tb b3 sgn grp sign_k group_k)
open Go.Proofs.Ytomofmmecpdalaa.tra (ag ag_in ags len_ags resA resA_yes resA_no len_resA l11triples)
open Go.Proofs.Ytomofmmecpdalaa.trv (okTrio trioB trioB_yes trioB_no)

def su (f : Nat → Int) (xss : List (List Int)) : Nat → Int
  | 0 => 0
  | n + 1 => su f xss n + f n * ag xss n 8
def small (f : Nat → Int) : Prop := ∀ k, f k = 0 ∨ f k = 1 ∨ f k = -1
theorem small_sgn : small sgn := fun k => by unfold sgn; split; · exact .inr (.inl rfl)
                                             · split; · exact .inr (.inr rfl)
                                               · exact .inl rfl
theorem small_grp : small grp := fun k => by unfold grp; split; · exact .inr (.inl rfl)
                                             · exact .inr (.inr rfl)
theorem mul_in {f : Nat → Int} (hf : small f) (k : Nat) (z : Int) : f k * z = 0 ∨ f k * z = z ∨ f k * z = -z := by
  rcases hf k with h | h | h <;> rw [h] <;> omega
theorem su_in {f : Nat → Int} (hf : small f) {wh : Int} {xss : List (List Int)} (h : okTrio wh xss) : ∀ n : Nat, n ≤ 8 → -(8000 * (n : Int)) ≤ su f xss n ∧ su f xss n ≤ 8000 * (n : Int)
  | 0, _ => by simp [su]
  | n + 1, hn => by
    obtain ⟨h1, h2⟩ := su_in hf h n (by omega)
    obtain ⟨h3, h4⟩ := ag_in h (show n < 8 by omega) 8 (by omega)
    have := mul_in hf n (ag xss n 8)
    simp only [su]
    push_cast
    omega
open Classical in
noncomputable def resS (f : Nat → Int) (wh : Int) (xss : List (List Int)) : Int × Bool := if okTrio wh xss then (su f xss 8, true) else (0, false)
theorem resS_yes {f : Nat → Int} {wh : Int} {xss : List (List Int)} (h : okTrio wh xss) : resS f wh xss = (su f xss 8, true) := if_pos h
theorem resS_no {f : Nat → Int} {wh : Int} {xss : List (List Int)} (h : ¬ okTrio wh xss) : resS f wh xss = (0, false) := if_neg h
theorem su_sgn (xss : List (List Int)) : su sgn xss 8 = ag xss 0 8 - ag xss 3 8 - ag xss 5 8 - ag xss 6 8 := by
  simp only [su, sgn]
  generalize ag xss 0 8 = a0
  generalize ag xss 1 8 = a1
  generalize ag xss 2 8 = a2
  generalize ag xss 3 8 = a3
  generalize ag xss 4 8 = a4
  generalize ag xss 5 8 = a5
  generalize ag xss 6 8 = a6
  generalize ag xss 7 8 = a7
  simp
  omega
theorem su_grp (xss : List (List Int)) : su grp xss 8 = ag xss 0 8 + ag xss 1 8 + ag xss 2 8 + ag xss 4 8 - ag xss 3 8 - ag xss 5 8 - ag xss 6 8 - ag xss 7 8 := by
  simp only [su, grp]
  generalize ag xss 0 8 = a0
  generalize ag xss 1 8 = a1
  generalize ag xss 2 8 = a2
  generalize ag xss 3 8 = a3
  generalize ag xss 4 8 = a4
  generalize ag xss 5 8 = a5
  generalize ag xss 6 8 = a6
  generalize ag xss 7 8 = a7
  simp
  omega
theorem ags_at (xss : List (List Int)) {k : Nat} (hk : k < (ags xss 8).length) : (ags xss 8)[k] = ag xss k 8 := by simp [ags]


set_option maxHeartbeats 4000000 in
theorem by_sgn (wh : Int) (v : Value) (xss : List (List Int)) (w : World) (h : IRows w v xss) (hn : total xss ≤ 1048576) :
    Calls Try.prog 81 #[.agg #[.int .i64 wh, v], .func (.func 82) #[] #[]] w fun e w' => e = .returned (.tuple #[.int .i64 (resS sgn wh xss).1, .bool (resS sgn wh xss).2]) ∧ Below w.heap.size w w' := by
  obtain ⟨va, vn, vc, rfl⟩ := h.shape
  have al := below_al (Below.refl w.heap.size w) (.cells #[.int .i64 wh, .slice va vn vc] 27)
  have HB0 := Lib.hid (Blk.new w 27 #[.int .i64 wh, .slice va vn vc])
  obtain ⟨W0, hW0⟩ : ∃ W, W = w.alloc (.cells #[.int .i64 wh, .slice va vn vc] 27) := ⟨_, rfl⟩
  rw [← hW0] at al HB0
  have AL := Lib.hid al
  have HT := Lib.hid (tra.impl_any wh _ xss W0 (h.below al) hn)
  clear al
  obtain ⟨c0, c1, _⟩ := two_cells HB0.out
  rw [hW0] at c0 c1
  by_cases hok : okTrio wh xss
  · rw [resS_yes hok]
    rw [resA_yes hok] at HT
    have HS := Lib.hid (fun (n : Nat) (hn : n < 8) => (show IntKind.i64.wrap (sgn n * ag xss n 8) = sgn n * ag xss n 8 ∧ IntKind.i64.wrap (su sgn xss n + sgn n * ag xss n 8) = su sgn xss (n + 1) from by
      obtain ⟨h1, h2⟩ := su_in small_sgn hok n (by omega)
      obtain ⟨h3, h4⟩ := ag_in hok hn 8 (by omega)
      have := mul_in small_sgn n (ag xss n 8)
      exact ⟨IntWalk.i64_in _ (by omega), IntWalk.i64_in _ (by omega)⟩))
    clear h hok
    go_enter Try.func81, Try.ntmps81
    go_wp2_with fail
    rw [← hW0]
    clear c0 c1 hW0
    refine HT.out.mono ?_
    rintro e w1 ⟨u, rfl, hu, hb⟩
    obtain ⟨A, b, o, cap, rfl, hcap, hmax, hA, hc⟩ := hu.ints.form
    rw [len_ags]
    obtain rfl := hA (by rw [len_ags]; omega)
    have HC := Lib.hid (fun (k : Nat) (hk : k < 8) => (show w1.cell? ⟨b, o + k, none⟩ = some (.int .i64 (ag xss k 8)) from by
      have := hc k (by rw [len_ags]; exact hk)
      rw [ags_at] at this
      exact this))
    have B1 := Lib.hid (below_tr AL.out hb)
    clear hu hb hcap hmax hA hc HT AL HB0
    go_wp2_with fail
    go_loopw [8, 18] (fun t s wr => ∃ n : Nat, n ≤ 8 ∧ s = .int .i64 n ∧ t = .int .i64 (su sgn xss n) ∧ Hid (Below w1.heap.size w1 wr)) (fun _ s _ => 8 - (intOf s).toNat)
    case atStart => exact ⟨0, by omega, rfl, rfl, Lib.hid (Below.refl _ _)⟩
    case round =>
      obtain ⟨n, hn8, rfl, rfl, hB⟩ := hrel
      obtain ⟨wo, rfl⟩ : ∃ wo : World, wo = wr := ⟨_, rfl⟩
      by_cases hlt : n < 8
      · have hqz : (n : Int) < 8 := by omega
        have x1 := below_cell hB.out _ _ (HC.out n hlt)
        have HA := Lib.hid (at3 n hlt wo)
        have HP := Lib.hid (fun W => sign_k n hlt W)
        obtain ⟨s1, s2⟩ := HS.out n hlt
        obtain ⟨ak, hak⟩ : ∃ z, z = su sgn xss n := ⟨_, rfl⟩
        obtain ⟨ak', hak'⟩ : ∃ z, z = su sgn xss (n + 1) := ⟨_, rfl⟩
        rw [← hak, ← hak'] at s2
        rw [← hak]
        generalize sgn n = fn at *
        generalize ag xss n 8 = an at *
        clear hak
        go_wp2_with fail
        refine HA.out.mono ?_
        rintro e w2 ⟨rfl, hb2⟩
        go_wp2_with fail
        refine (HP.out _).mono ?_
        rintro e w3 ⟨rfl, hb3⟩
        go_wp2_with fail
        go_roundw
        case rel => exact ⟨n + 1, by omega, by go_num, by rw [← hak'], Lib.hid (below_tr (below_tr hB.out hb2) hb3)⟩
        case measure => simp [intOf]; omega
      · have hqz : ¬ (n : Int) < 8 := by omega
        obtain rfl : n = 8 := by omega
        go_wp2_with fail
        refine bodyPost_ret (v := .tuple #[.int .i64 (su sgn xss 8), .bool true]) (by simp [results, Try.results81, go_sem]) rfl ⟨rfl, below_tr B1.out hB.out⟩
  · rw [resS_no hok]
    rw [resA_no hok] at HT
    clear h hok
    go_enter Try.func81, Try.ntmps81
    go_wp2_with fail
    rw [← hW0]
    clear c0 c1 hW0
    refine HT.out.mono ?_
    rintro e w1 ⟨u, rfl, hu, hb⟩
    obtain ⟨A, b, o, cap, rfl, _⟩ := hu.ints.form
    have B1 := Lib.hid (below_tr AL.out hb)
    clear hu hb HT AL HB0
    go_wp2_with fail
    go_loopw [8, 18] (fun t s wr => s = .int .i64 0 ∧ t = .int .i64 0 ∧ w1 = wr) (fun _ _ _ => 0)
    case atStart => exact ⟨rfl, rfl, rfl⟩
    case round =>
      obtain ⟨rfl, rfl, rfl⟩ := hrel
      go_wp2_with fail
      refine bodyPost_ret (v := .tuple #[.int .i64 0, .bool false]) (by simp [results, Try.results81, go_sem]) rfl ⟨rfl, B1.out⟩



set_option maxHeartbeats 4000000 in
theorem impl_sgn (wh : Int) (v : Value) (xss : List (List Int)) (w : World) (h : IRows w v xss) (hn : total xss ≤ 1048576) :
    Calls Try.prog 39 #[.agg #[.int .i64 wh, v]] w fun e w' => e = .returned (.tuple #[.int .i64 (resS sgn wh xss).1, .bool (resS sgn wh xss).2]) ∧ Below w.heap.size w w' := by
  obtain ⟨va, vn, vc, rfl⟩ := h.shape
  have al := below_al (Below.refl w.heap.size w) (.cells #[.int .i64 wh, .slice va vn vc] 27)
  have HT := Lib.hid (by_sgn wh _ xss _ (h.below al) hn)
  have AL := Lib.hid al
  clear al h
  go_enter Try.func39, Try.ntmps39
  go_wp2_with fail
  refine HT.out.mono ?_
  rintro e w1 ⟨rfl, hb⟩
  go_wp2_with fail
  refine bodyPost_ret (v := .tuple #[.int .i64 (resS sgn wh xss).1, .bool (resS sgn wh xss).2]) (by simp [results, Try.results39, go_sem]) rfl ⟨rfl, below_tr AL.out hb⟩



set_option maxHeartbeats 4000000 in
theorem spec_sgn (wh : Int) (v : Value) (xss : List (List Int)) (w : World) (h : IRows w v xss) (hn : total xss ≤ 1048576) :
    Calls Try.prog 38 #[.agg #[.int .i64 wh, v]] w fun e w' => e = .returned (.tuple #[.int .i64 (resS sgn wh xss).1, .bool (resS sgn wh xss).2]) ∧ Below w.heap.size w w' := by
  obtain ⟨va, vn, vc, rfl⟩ := h.shape
  have al := below_al (Below.refl w.heap.size w) (.cells #[.int .i64 wh, .slice va vn vc] 27)
  have HB0 := Lib.hid (Blk.new w 27 #[.int .i64 wh, .slice va vn vc])
  obtain ⟨W0, hW0⟩ : ∃ W, W = w.alloc (.cells #[.int .i64 wh, .slice va vn vc] 27) := ⟨_, rfl⟩
  rw [← hW0] at al HB0
  have AL := Lib.hid al
  have HT := trv.spec_any wh _ xss W0 (h.below al) hn
  clear al
  obtain ⟨c0, c1, _⟩ := two_cells HB0.out
  rw [hW0] at c0 c1
  by_cases hok : okTrio wh xss
  · rw [trioB_yes hok] at HT
    have HT' := Lib.hid HT
    rw [resS_yes hok, su_sgn]
    have HF := Lib.hid (fun (W : World) (hb : Below w.heap.size w W) => l11triples wh _ xss W (h.below hb) hok)
    have HI := Lib.hid (fun (k : Nat) (hk : k < 8) => ag_in hok hk 8 (by omega))
    obtain ⟨l0, u0⟩ := HI.out 0 (by omega)
    obtain ⟨l3, u3⟩ := HI.out 3 (by omega)
    obtain ⟨l5, u5⟩ := HI.out 5 (by omega)
    obtain ⟨l6, u6⟩ := HI.out 6 (by omega)
    have q0 : IntKind.i64.wrap (ag xss 0 8 - ag xss 3 8) = ag xss 0 8 - ag xss 3 8 := IntWalk.i64_in _ (by omega)
    have q1 : IntKind.i64.wrap (ag xss 0 8 - ag xss 3 8 - ag xss 5 8) = ag xss 0 8 - ag xss 3 8 - ag xss 5 8 := IntWalk.i64_in _ (by omega)
    have q2 : IntKind.i64.wrap (ag xss 0 8 - ag xss 3 8 - ag xss 5 8 - ag xss 6 8) = ag xss 0 8 - ag xss 3 8 - ag xss 5 8 - ag xss 6 8 := IntWalk.i64_in _ (by omega)
    clear HT h hok l0 u0 l3 u3 l5 u5 l6 u6
    go_enter Try.func38, Try.ntmps38
    go_wp2_with fail
    rw [← hW0]
    clear c0 c1 hW0
    refine HT'.out.mono ?_
    rintro e w1 ⟨rfl, hb⟩
    have H1 : Hid (Blk w1 w.heap.size 27 #[.int .i64 wh, .slice va vn vc] ∧ Below w.heap.size w w1) := Lib.hid ⟨HB0.out.below hb, below_tr AL.out hb⟩
    clear HT' hb AL HB0
    obtain ⟨c0, c1, _⟩ := two_cells H1.out.1
    go_wp2_with fail
    refine (HF.out _ H1.out.2).mono ?_
    rintro e w2 ⟨u, rfl, hu, hb⟩
    obtain ⟨A, b, o, cap, rfl, hcap, hmax, hA, hc⟩ := hu.ints.form
    rw [len_ags]
    obtain rfl := hA (by rw [len_ags]; omega)
    have HC := Lib.hid (fun (k : Nat) (hk : k < 8) => (show w2.cell? ⟨b, o + k, none⟩ = some (.int .i64 (ag xss k 8)) from by
      have := hc k (by rw [len_ags]; exact hk)
      rw [ags_at] at this
      exact this))
    have B2 := Lib.hid (below_tr H1.out.2 hb)
    clear hu hb c0 c1 H1 HF hcap hmax hA hc
    have x0 := HC.out 0 (by omega)
    have x3 := HC.out 3 (by omega)
    have x5 := HC.out 5 (by omega)
    have x6 := HC.out 6 (by omega)
    simp only [Nat.add_zero] at x0
    go_wp2_with fail
    go_region_held3 (fun w' => w'.cell? ⟨b, o, none⟩ = some (.int .i64 (ag xss 0 8)) ∧ w'.cell? ⟨b, o + 3, none⟩ = some (.int .i64 (ag xss 3 8)) ∧ w'.cell? ⟨b, o + 5, none⟩ = some (.int .i64 (ag xss 5 8)) ∧ w'.cell? ⟨b, o + 6, none⟩ = some (.int .i64 (ag xss 6 8)) ∧ Below w2.heap.size w2 w')
      ((refine ⟨below_cell ?_ _ _ x0, below_cell ?_ _ _ x3, below_cell ?_ _ _ x5, below_cell ?_ _ _ x6, ?_⟩; all_goals (repeat (first | (with_reducible exact Below.refl _ _) | (with_reducible refine below_dr ?_) | (with_reducible refine below_tr ?_ (by assumption))))))
      (fail)
    go_wp2_with fail
    refine bodyPost_ret (v := .tuple #[.int .i64 (ag xss 0 8 - ag xss 3 8 - ag xss 5 8 - ag xss 6 8), .bool true]) (by simp [results, Try.results38, go_sem]) rfl ⟨rfl, B2.out.drew⟩
  · rw [trioB_no hok] at HT
    have HT' := Lib.hid HT
    rw [resS_no hok]
    clear HT h hok
    go_enter Try.func38, Try.ntmps38
    go_wp2_with fail
    rw [← hW0]
    clear c0 c1 hW0
    refine HT'.out.mono ?_
    rintro e w1 ⟨rfl, hb⟩
    go_wp2_with fail
    refine bodyPost_ret (v := .tuple #[.int .i64 0, .bool false]) (by simp [results, Try.results38, go_sem]) rfl ⟨rfl, below_tr AL.out hb⟩



set_option maxHeartbeats 4000000 in
theorem by_grp (wh : Int) (v : Value) (xss : List (List Int)) (w : World) (h : IRows w v xss) (hn : total xss ≤ 1048576) :
    Calls Try.prog 81 #[.agg #[.int .i64 wh, v], .func (.func 83) #[] #[]] w fun e w' => e = .returned (.tuple #[.int .i64 (resS grp wh xss).1, .bool (resS grp wh xss).2]) ∧ Below w.heap.size w w' := by
  obtain ⟨va, vn, vc, rfl⟩ := h.shape
  have al := below_al (Below.refl w.heap.size w) (.cells #[.int .i64 wh, .slice va vn vc] 27)
  have HB0 := Lib.hid (Blk.new w 27 #[.int .i64 wh, .slice va vn vc])
  obtain ⟨W0, hW0⟩ : ∃ W, W = w.alloc (.cells #[.int .i64 wh, .slice va vn vc] 27) := ⟨_, rfl⟩
  rw [← hW0] at al HB0
  have AL := Lib.hid al
  have HT := Lib.hid (tra.impl_any wh _ xss W0 (h.below al) hn)
  clear al
  obtain ⟨c0, c1, _⟩ := two_cells HB0.out
  rw [hW0] at c0 c1
  by_cases hok : okTrio wh xss
  · rw [resS_yes hok]
    rw [resA_yes hok] at HT
    have HS := Lib.hid (fun (n : Nat) (hn : n < 8) => (show IntKind.i64.wrap (grp n * ag xss n 8) = grp n * ag xss n 8 ∧ IntKind.i64.wrap (su grp xss n + grp n * ag xss n 8) = su grp xss (n + 1) from by
      obtain ⟨h1, h2⟩ := su_in small_grp hok n (by omega)
      obtain ⟨h3, h4⟩ := ag_in hok hn 8 (by omega)
      have := mul_in small_grp n (ag xss n 8)
      exact ⟨IntWalk.i64_in _ (by omega), IntWalk.i64_in _ (by omega)⟩))
    clear h hok
    go_enter Try.func81, Try.ntmps81
    go_wp2_with fail
    rw [← hW0]
    clear c0 c1 hW0
    refine HT.out.mono ?_
    rintro e w1 ⟨u, rfl, hu, hb⟩
    obtain ⟨A, b, o, cap, rfl, hcap, hmax, hA, hc⟩ := hu.ints.form
    rw [len_ags]
    obtain rfl := hA (by rw [len_ags]; omega)
    have HC := Lib.hid (fun (k : Nat) (hk : k < 8) => (show w1.cell? ⟨b, o + k, none⟩ = some (.int .i64 (ag xss k 8)) from by
      have := hc k (by rw [len_ags]; exact hk)
      rw [ags_at] at this
      exact this))
    have B1 := Lib.hid (below_tr AL.out hb)
    clear hu hb hcap hmax hA hc HT AL HB0
    go_wp2_with fail
    go_loopw [8, 18] (fun t s wr => ∃ n : Nat, n ≤ 8 ∧ s = .int .i64 n ∧ t = .int .i64 (su grp xss n) ∧ Hid (Below w1.heap.size w1 wr)) (fun _ s _ => 8 - (intOf s).toNat)
    case atStart => exact ⟨0, by omega, rfl, rfl, Lib.hid (Below.refl _ _)⟩
    case round =>
      obtain ⟨n, hn8, rfl, rfl, hB⟩ := hrel
      obtain ⟨wo, rfl⟩ : ∃ wo : World, wo = wr := ⟨_, rfl⟩
      by_cases hlt : n < 8
      · have hqz : (n : Int) < 8 := by omega
        have x1 := below_cell hB.out _ _ (HC.out n hlt)
        have HA := Lib.hid (at3 n hlt wo)
        have HP := Lib.hid (fun W => group_k n hlt W)
        obtain ⟨s1, s2⟩ := HS.out n hlt
        obtain ⟨ak, hak⟩ : ∃ z, z = su grp xss n := ⟨_, rfl⟩
        obtain ⟨ak', hak'⟩ : ∃ z, z = su grp xss (n + 1) := ⟨_, rfl⟩
        rw [← hak, ← hak'] at s2
        rw [← hak]
        generalize grp n = fn at *
        generalize ag xss n 8 = an at *
        clear hak
        go_wp2_with fail
        refine HA.out.mono ?_
        rintro e w2 ⟨rfl, hb2⟩
        go_wp2_with fail
        refine (HP.out _).mono ?_
        rintro e w3 ⟨rfl, hb3⟩
        go_wp2_with fail
        go_roundw
        case rel => exact ⟨n + 1, by omega, by go_num, by rw [← hak'], Lib.hid (below_tr (below_tr hB.out hb2) hb3)⟩
        case measure => simp [intOf]; omega
      · have hqz : ¬ (n : Int) < 8 := by omega
        obtain rfl : n = 8 := by omega
        go_wp2_with fail
        refine bodyPost_ret (v := .tuple #[.int .i64 (su grp xss 8), .bool true]) (by simp [results, Try.results81, go_sem]) rfl ⟨rfl, below_tr B1.out hB.out⟩
  · rw [resS_no hok]
    rw [resA_no hok] at HT
    clear h hok
    go_enter Try.func81, Try.ntmps81
    go_wp2_with fail
    rw [← hW0]
    clear c0 c1 hW0
    refine HT.out.mono ?_
    rintro e w1 ⟨u, rfl, hu, hb⟩
    obtain ⟨A, b, o, cap, rfl, _⟩ := hu.ints.form
    have B1 := Lib.hid (below_tr AL.out hb)
    clear hu hb HT AL HB0
    go_wp2_with fail
    go_loopw [8, 18] (fun t s wr => s = .int .i64 0 ∧ t = .int .i64 0 ∧ w1 = wr) (fun _ _ _ => 0)
    case atStart => exact ⟨rfl, rfl, rfl⟩
    case round =>
      obtain ⟨rfl, rfl, rfl⟩ := hrel
      go_wp2_with fail
      refine bodyPost_ret (v := .tuple #[.int .i64 0, .bool false]) (by simp [results, Try.results81, go_sem]) rfl ⟨rfl, B1.out⟩



set_option maxHeartbeats 4000000 in
theorem impl_grp (wh : Int) (v : Value) (xss : List (List Int)) (w : World) (h : IRows w v xss) (hn : total xss ≤ 1048576) :
    Calls Try.prog 41 #[.agg #[.int .i64 wh, v]] w fun e w' => e = .returned (.tuple #[.int .i64 (resS grp wh xss).1, .bool (resS grp wh xss).2]) ∧ Below w.heap.size w w' := by
  obtain ⟨va, vn, vc, rfl⟩ := h.shape
  have al := below_al (Below.refl w.heap.size w) (.cells #[.int .i64 wh, .slice va vn vc] 27)
  have HT := Lib.hid (by_grp wh _ xss _ (h.below al) hn)
  have AL := Lib.hid al
  clear al h
  go_enter Try.func41, Try.ntmps41
  go_wp2_with fail
  refine HT.out.mono ?_
  rintro e w1 ⟨rfl, hb⟩
  go_wp2_with fail
  refine bodyPost_ret (v := .tuple #[.int .i64 (resS grp wh xss).1, .bool (resS grp wh xss).2]) (by simp [results, Try.results41, go_sem]) rfl ⟨rfl, below_tr AL.out hb⟩



set_option maxHeartbeats 4000000 in
theorem spec_grp (wh : Int) (v : Value) (xss : List (List Int)) (w : World) (h : IRows w v xss) (hn : total xss ≤ 1048576) :
    Calls Try.prog 40 #[.agg #[.int .i64 wh, v]] w fun e w' => e = .returned (.tuple #[.int .i64 (resS grp wh xss).1, .bool (resS grp wh xss).2]) ∧ Below w.heap.size w w' := by
  obtain ⟨va, vn, vc, rfl⟩ := h.shape
  have al := below_al (Below.refl w.heap.size w) (.cells #[.int .i64 wh, .slice va vn vc] 27)
  have HB0 := Lib.hid (Blk.new w 27 #[.int .i64 wh, .slice va vn vc])
  obtain ⟨W0, hW0⟩ : ∃ W, W = w.alloc (.cells #[.int .i64 wh, .slice va vn vc] 27) := ⟨_, rfl⟩
  rw [← hW0] at al HB0
  have AL := Lib.hid al
  have HT := trv.spec_any wh _ xss W0 (h.below al) hn
  clear al
  obtain ⟨c0, c1, _⟩ := two_cells HB0.out
  rw [hW0] at c0 c1
  by_cases hok : okTrio wh xss
  · rw [trioB_yes hok] at HT
    have HT' := Lib.hid HT
    rw [resS_yes hok, su_grp]
    have HF := Lib.hid (fun (W : World) (hb : Below w.heap.size w W) => l11triples wh _ xss W (h.below hb) hok)
    have HI := Lib.hid (fun (k : Nat) (hk : k < 8) => ag_in hok hk 8 (by omega))
    obtain ⟨l0, u0⟩ := HI.out 0 (by omega)
    obtain ⟨l1, u1⟩ := HI.out 1 (by omega)
    obtain ⟨l2, u2⟩ := HI.out 2 (by omega)
    obtain ⟨l3, u3⟩ := HI.out 3 (by omega)
    obtain ⟨l4, u4⟩ := HI.out 4 (by omega)
    obtain ⟨l5, u5⟩ := HI.out 5 (by omega)
    obtain ⟨l6, u6⟩ := HI.out 6 (by omega)
    obtain ⟨l7, u7⟩ := HI.out 7 (by omega)
    have q0 : IntKind.i64.wrap (ag xss 0 8 + ag xss 1 8) = ag xss 0 8 + ag xss 1 8 := IntWalk.i64_in _ (by omega)
    have q1 : IntKind.i64.wrap (ag xss 0 8 + ag xss 1 8 + ag xss 2 8) = ag xss 0 8 + ag xss 1 8 + ag xss 2 8 := IntWalk.i64_in _ (by omega)
    have q2 : IntKind.i64.wrap (ag xss 0 8 + ag xss 1 8 + ag xss 2 8 + ag xss 4 8) = ag xss 0 8 + ag xss 1 8 + ag xss 2 8 + ag xss 4 8 := IntWalk.i64_in _ (by omega)
    have q3 : IntKind.i64.wrap (ag xss 0 8 + ag xss 1 8 + ag xss 2 8 + ag xss 4 8 - ag xss 3 8) = ag xss 0 8 + ag xss 1 8 + ag xss 2 8 + ag xss 4 8 - ag xss 3 8 := IntWalk.i64_in _ (by omega)
    have q4 : IntKind.i64.wrap (ag xss 0 8 + ag xss 1 8 + ag xss 2 8 + ag xss 4 8 - ag xss 3 8 - ag xss 5 8) = ag xss 0 8 + ag xss 1 8 + ag xss 2 8 + ag xss 4 8 - ag xss 3 8 - ag xss 5 8 := IntWalk.i64_in _ (by omega)
    have q5 : IntKind.i64.wrap (ag xss 0 8 + ag xss 1 8 + ag xss 2 8 + ag xss 4 8 - ag xss 3 8 - ag xss 5 8 - ag xss 6 8) = ag xss 0 8 + ag xss 1 8 + ag xss 2 8 + ag xss 4 8 - ag xss 3 8 - ag xss 5 8 - ag xss 6 8 := IntWalk.i64_in _ (by omega)
    have q6 : IntKind.i64.wrap (ag xss 0 8 + ag xss 1 8 + ag xss 2 8 + ag xss 4 8 - ag xss 3 8 - ag xss 5 8 - ag xss 6 8 - ag xss 7 8) = ag xss 0 8 + ag xss 1 8 + ag xss 2 8 + ag xss 4 8 - ag xss 3 8 - ag xss 5 8 - ag xss 6 8 - ag xss 7 8 := IntWalk.i64_in _ (by omega)
    clear HT h hok l0 u0 l1 u1 l2 u2 l3 u3 l4 u4 l5 u5 l6 u6 l7 u7
    go_enter Try.func40, Try.ntmps40
    go_wp2_with fail
    rw [← hW0]
    clear c0 c1 hW0
    refine HT'.out.mono ?_
    rintro e w1 ⟨rfl, hb⟩
    have H1 : Hid (Blk w1 w.heap.size 27 #[.int .i64 wh, .slice va vn vc] ∧ Below w.heap.size w w1) := Lib.hid ⟨HB0.out.below hb, below_tr AL.out hb⟩
    clear HT' hb AL HB0
    obtain ⟨c0, c1, _⟩ := two_cells H1.out.1
    go_wp2_with fail
    refine (HF.out _ H1.out.2).mono ?_
    rintro e w2 ⟨u, rfl, hu, hb⟩
    obtain ⟨A, b, o, cap, rfl, hcap, hmax, hA, hc⟩ := hu.ints.form
    rw [len_ags]
    obtain rfl := hA (by rw [len_ags]; omega)
    have HC := Lib.hid (fun (k : Nat) (hk : k < 8) => (show w2.cell? ⟨b, o + k, none⟩ = some (.int .i64 (ag xss k 8)) from by
      have := hc k (by rw [len_ags]; exact hk)
      rw [ags_at] at this
      exact this))
    have B2 := Lib.hid (below_tr H1.out.2 hb)
    clear hu hb c0 c1 H1 HF hcap hmax hA hc
    have x0 := HC.out 0 (by omega)
    have x1 := HC.out 1 (by omega)
    have x2 := HC.out 2 (by omega)
    have x3 := HC.out 3 (by omega)
    have x4 := HC.out 4 (by omega)
    have x5 := HC.out 5 (by omega)
    have x6 := HC.out 6 (by omega)
    have x7 := HC.out 7 (by omega)
    simp only [Nat.add_zero] at x0
    go_wp2_with fail
    go_region_held3 (fun w' => w'.cell? ⟨b, o, none⟩ = some (.int .i64 (ag xss 0 8)) ∧ w'.cell? ⟨b, o + 1, none⟩ = some (.int .i64 (ag xss 1 8)) ∧ w'.cell? ⟨b, o + 2, none⟩ = some (.int .i64 (ag xss 2 8)) ∧ w'.cell? ⟨b, o + 3, none⟩ = some (.int .i64 (ag xss 3 8)) ∧ w'.cell? ⟨b, o + 4, none⟩ = some (.int .i64 (ag xss 4 8)) ∧ w'.cell? ⟨b, o + 5, none⟩ = some (.int .i64 (ag xss 5 8)) ∧ w'.cell? ⟨b, o + 6, none⟩ = some (.int .i64 (ag xss 6 8)) ∧ w'.cell? ⟨b, o + 7, none⟩ = some (.int .i64 (ag xss 7 8)) ∧ Below w2.heap.size w2 w')
      ((refine ⟨below_cell ?_ _ _ x0, below_cell ?_ _ _ x1, below_cell ?_ _ _ x2, below_cell ?_ _ _ x3, below_cell ?_ _ _ x4, below_cell ?_ _ _ x5, below_cell ?_ _ _ x6, below_cell ?_ _ _ x7, ?_⟩; all_goals (repeat (first | (with_reducible exact Below.refl _ _) | (with_reducible refine below_dr ?_) | (with_reducible refine below_tr ?_ (by assumption))))))
      (fail)
    go_wp2_with fail
    refine bodyPost_ret (v := .tuple #[.int .i64 (ag xss 0 8 + ag xss 1 8 + ag xss 2 8 + ag xss 4 8 - ag xss 3 8 - ag xss 5 8 - ag xss 6 8 - ag xss 7 8), .bool true]) (by simp [results, Try.results40, go_sem]) rfl ⟨rfl, B2.out.drew⟩
  · rw [trioB_no hok] at HT
    have HT' := Lib.hid HT
    rw [resS_no hok]
    clear HT h hok
    go_enter Try.func40, Try.ntmps40
    go_wp2_with fail
    rw [← hW0]
    clear c0 c1 hW0
    refine HT'.out.mono ?_
    rintro e w1 ⟨rfl, hb⟩
    go_wp2_with fail
    refine bodyPost_ret (v := .tuple #[.int .i64 0, .bool false]) (by simp [results, Try.results40, go_sem]) rfl ⟨rfl, below_tr AL.out hb⟩


end Go.Proofs.Ytomofmmecpdalaa.trs
