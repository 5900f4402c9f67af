/- ProductBox of the model and of the program. -/
import Derived.Test.YtkajebhagkbcaaaMake
import Derived.Test.YtkajebhagkbcaaaPlay
namespace Go.Proofs.Ytkajebhagkbcaaa.prod
open Go.RowKit Go.Deep Go.Proofs.Ytkajebhagkbcaaa.base
open Go.Proofs.Ytkajebhagkbcaaa.ints (ret_int infoInt infoInts)
open Go.Proofs.Ytkajebhagkbcaaa.rws (total)
open Go.Proofs.Ytkajebhagkbcaaa.val (okSizes okBox)
open Go.Proofs.Ytkajebhagkbcaaa.play (within withinB withinB_yes withinB_no)

set_option maxHeartbeats 4000000 in
theorem make_anyR (p0 p1 p2 : Nat) (X Y : Nat) (N : Nat → Nat → Int) (w : World) (hX : X ≤ 3) (hY : Y ≤ 3)
    (hrow : ∀ (i j : Nat) (W : World), i < X → j < Y → Below w.heap.size w W → Calls Try.prog 66 #[.int .i64 (i : Int), .int .i64 (j : Int), .pointer (some ⟨p0, 0, none⟩), .pointer (some ⟨p1, 0, none⟩), .pointer (some ⟨p2, 0, none⟩)] W fun e w' =>
      e = .returned (.agg #[.int .i64 (N (i * Y + j) 0), .int .i64 (N (i * Y + j) 1), .int .i64 (N (i * Y + j) 2), .int .i64 (N (i * Y + j) 3)]) ∧ Below W.heap.size W w') :
    Calls Try.prog 102 #[.int .i64 (X : Int), .int .i64 (Y : Int), .func (.func 66) #[] #[.pointer (some ⟨p0, 0, none⟩), .pointer (some ⟨p1, 0, none⟩), .pointer (some ⟨p2, 0, none⟩)]] w fun e w' => ∃ u, e = .returned u ∧
      OwnRows w' w.heap.size w'.heap.size u (make.rowsOf N (X * Y)) ∧ Below w.heap.size w w' := by
  obtain ⟨i0, hi, hz0, hz1, hz2⟩ := info_parts infoInts
  have h9 : X * Y ≤ 9 := Nat.mul_le_mul hX hY
  have hm : (X : Int) * (Y : Int) = ((X * Y : Nat) : Int) := by simp
  have hmk := app.mk0s (X * Y) (by omega)
  rw [← hm] at hmk
  have hw1 : IntKind.i64.wrap ((X : Int) * (Y : Int)) = (X : Int) * (Y : Int) := IntWalk.i64_in _ (by omega)
  have HM := Lib.hid hm
  have HR := Lib.hid hrow
  have P0 : Hid (pile.Pile w (w.alloc (.cells (madeCells #[.slice none 0 0] (X * Y)) 30)) w.heap.size (w.alloc (.cells (madeCells #[.slice none 0 0] (X * Y)) 30)).heap.size (.slice (some ⟨w.heap.size, 0, none⟩) 0 (X * Y)) [] (make.rowsOf N (0 * Y))) := Lib.hid (by
    rw [Nat.zero_mul]
    refine pile.start (below_al (Below.refl _ _) _) (Nat.le_refl _) ?_ (by simp)
    have := World.ownsRow_made (base := w.heap.size) (e := 30) (size := 1) w (madeCells #[.slice none 0 0] (X * Y)) (X * Y) (Nat.le_refl _) (by unfold maxLen; omega) (by simp [madeCells])
    simpa using this)
  clear hm hrow
  go_enter Try.func102, Try.ntmps102
  go_wp2_with fail
  clear hmk hw1
  go_loopw [7, 17] (fun v i wr => ∃ a : Nat, a ≤ X ∧ i = .int .i64 a ∧ ∃ vals, Hid (pile.Pile w wr w.heap.size wr.heap.size v vals (make.rowsOf N (a * Y)))) (fun _ i _ => X - (intOf i).toNat)
  case atStart => exact ⟨0, Nat.zero_le _, rfl, _, P0⟩
  case round =>
    obtain ⟨a, ha, rfl, vals, hP⟩ := hrel
    clear P0
    obtain ⟨wo, rfl⟩ : ∃ wo : World, wo = wr := ⟨_, rfl⟩
    by_cases hlt : a < X
    · have hkz : (a : Int) < (X : Int) := by omega
      go_wp2_with fail
      go_loopw [7, 21] (fun v j wi => ∃ c : Nat, c ≤ Y ∧ j = .int .i64 c ∧ ∃ vals, Hid (pile.Pile w wi w.heap.size wi.heap.size v vals (make.rowsOf N (a * Y + c)))) (fun _ j _ => Y - (intOf j).toNat)
      case atStart => exact ⟨0, Nat.zero_le _, rfl, _, hP⟩
      case round =>
        obtain ⟨c, hc, rfl, vals, hP⟩ := hrel
        obtain ⟨wi, rfl⟩ : ∃ wi : World, wi = wr := ⟨_, rfl⟩
        by_cases hlc : c < Y
        · have hkc : (c : Int) < (Y : Int) := by omega
          have HCA := Lib.hid (HR.out a c wi hlt hlc hP.out.below)
          have hk9 : a * Y + c < 9 := by
            have h1 : a * Y + c < (a + 1) * Y := by rw [Nat.add_mul]; omega
            have h2 : (a + 1) * Y ≤ X * Y := Nat.mul_le_mul_right _ (by omega)
            omega
          have HK9 := Lib.hid hk9
          have HLE := Lib.hid (make.len_rowsOf N (a * Y + c))
          clear hk9
          go_wp2_with fail
          refine HCA.out.mono ?_
          rintro e w2 ⟨rfl, hb⟩
          have W2 := Lib.hid (hP.out.keep hb)
          have hcp := row.copy4p (W := w2.alloc (.cells #[.int .i64 (N (a * Y + c) 0), .int .i64 (N (a * Y + c) 1), .int .i64 (N (a * Y + c) 2), .int .i64 (N (a * Y + c) 3)] 64)) (b := w2.heap.size) (o := 0) (cap := 4) (n := w2.heap.size + 1)
            (n0 := .int .i64 (N (a * Y + c) 0)) (n1 := .int .i64 (N (a * Y + c) 1)) (n2 := .int .i64 (N (a * Y + c) 2)) (n3 := .int .i64 (N (a * Y + c) 3)) #[.int .i64 0, .int .i64 0, .int .i64 0, .int .i64 0] 3 rfl (by simp)
            (by rw [Joins.cell_of_block (heap_alloc_new w2 _)]; rfl) (by rw [Joins.cell_of_block (heap_alloc_new w2 _)]; rfl) (by rw [Joins.cell_of_block (heap_alloc_new w2 _)]; rfl) (by rw [Joins.cell_of_block (heap_alloc_new w2 _)]; rfl) rfl rfl rfl rfl
          have hrowis : ((w2.alloc (.cells #[.int .i64 (N (a * Y + c) 0), .int .i64 (N (a * Y + c) 1), .int .i64 (N (a * Y + c) 2), .int .i64 (N (a * Y + c) 3)] 64)).alloc (.cells #[.int .i64 (N (a * Y + c) 0), .int .i64 (N (a * Y + c) 1), .int .i64 (N (a * Y + c) 2), .int .i64 (N (a * Y + c) 3)] 3)).rowIs (w2.heap.size + 1) 3 4 (fun j => .int .i64 ((make.quad N (a * Y + c)).getD j 0)) := by
            refine ⟨#[.int .i64 (N (a * Y + c) 0), .int .i64 (N (a * Y + c) 1), .int .i64 (N (a * Y + c) 2), .int .i64 (N (a * Y + c) 3)], by
              have := heap_alloc_new (w2.alloc (.cells #[.int .i64 (N (a * Y + c) 0), .int .i64 (N (a * Y + c) 1), .int .i64 (N (a * Y + c) 2), .int .i64 (N (a * Y + c) 3)] 64)) (.cells #[.int .i64 (N (a * Y + c) 0), .int .i64 (N (a * Y + c) 1), .int .i64 (N (a * Y + c) 2), .int .i64 (N (a * Y + c) 3)] 3)
              simpa using this, rfl, fun i hi => ?_⟩
            match i, hi with
            | 0, _ => rfl
            | 1, _ => rfl
            | 2, _ => rfl
            | 3, _ => rfl
          have HRI := Lib.hid (hrowis.alloc (.cells #[.slice (some ⟨w2.heap.size + 1, 0, none⟩) 4 4] 30))
          have P3 := Lib.hid (((W2.out.keep (below_al (Below.refl _ _) (.cells #[.int .i64 (N (a * Y + c) 0), .int .i64 (N (a * Y + c) 1), .int .i64 (N (a * Y + c) 2), .int .i64 (N (a * Y + c) 3)] 64))).keep (below_al (Below.refl _ _) (.cells #[.int .i64 (N (a * Y + c) 0), .int .i64 (N (a * Y + c) 1), .int .i64 (N (a * Y + c) 2), .int .i64 (N (a * Y + c) 3)] 3))).keep (below_al (Below.refl _ _) (.cells #[.slice (some ⟨w2.heap.size + 1, 0, none⟩) 4 4] 30)))
          have hm4 := make.mk4
          have hsz := hb.size
          have hsw := W2.out.below.size
          clear hb hP HCA hrowis W2
          go_wp2_with (at_builtin; go_must (refine wpList_append_own _ rfl (.tmp 32) (.tmp 34) 22 rfl w.heap.size 30 i0 (.slice none 0 0) 1 24 Try.underlying22 hi hz0 hz1 hz2 rfl (by decide) _ _ _ rfl P3.out.owns ⟨w2.heap.size + 1 + 1, 0, none⟩ 1 1 [.slice (some ⟨w2.heap.size + 1, 0, none⟩) 4 4] rfl rfl ?c1 ?c2 ?c3 ?c4 ?c5 ?_))
          case c1 =>
            have := app.one_at ((w2.alloc (.cells #[.int .i64 (N (a * Y + c) 0), .int .i64 (N (a * Y + c) 1), .int .i64 (N (a * Y + c) 2), .int .i64 (N (a * Y + c) 3)] 64)).alloc (.cells #[.int .i64 (N (a * Y + c) 0), .int .i64 (N (a * Y + c) 1), .int .i64 (N (a * Y + c) 2), .int .i64 (N (a * Y + c) 3)] 3)) (.slice (some ⟨w2.heap.size + 1, 0, none⟩) 4 4) 30
            simpa using this
          case c2 => intro u hu; simp at hu; subst hu; rfl
          case c3 => rw [HLE.out]; have := HK9.out; unfold maxLen; omega
          case c4 => rw [HLE.out]; have := HK9.out; omega
          case c5 => simp; omega
          intro v' w3 hown' hgrow _
          have P4 : Hid (pile.Pile w w3 w.heap.size w3.heap.size v' (vals ++ [.slice (some ⟨w2.heap.size + 1, 0, none⟩) 4 4]) (make.rowsOf N (a * Y + (c + 1)))) := Lib.hid (by
            have e : make.rowsOf N (a * Y + (c + 1)) = make.rowsOf N (a * Y + c) ++ [make.quad N (a * Y + c)] := by simp [make.rowsOf, ← Nat.add_assoc, List.range_succ]
            rw [e]
            refine P3.out.grow (m' := w2.heap.size + 1) (T := w2.heap.size + 1 + 1) (ints.own_of_row (xs := make.quad N (a * Y + c)) HRI.out (Nat.le_refl _) (by omega) (by simp [make.quad, maxLen])) (by omega) (by simp) (pile.typ_row HRI.out _ _) hown' hgrow)
          obtain ⟨va, vl, vc, rfl⟩ := make.shape hown'
          clear hown' hgrow P3 HRI hcp hm4
          go_wp2_with fail
          go_roundw
          case rel => exact ⟨c + 1, by omega, by go_num, _, P4⟩
          case measure => simp [intOf]; omega
        · have hkc : ¬ (c : Int) < (Y : Int) := by omega
          obtain rfl : c = Y := by omega
          go_wp2_with fail
          go_roundw
          case rel => exact ⟨a + 1, by omega, by go_num, vals, by rw [Nat.add_mul, Nat.one_mul]; exact hP⟩
          case measure => simp [intOf]; omega
    · have hkz : ¬ (a : Int) < (X : Int) := by omega
      obtain rfl : a = X := by omega
      obtain ⟨va, vl, vc, rfl⟩ := make.shape hP.out.owns
      go_wp2_with fail
      go_ret
      exact ⟨_, rfl, hP.out.rows, hP.out.below⟩

set_option maxHeartbeats 2000000 in
theorem make_any (p0 p1 p2 : Nat) (X Y : Nat) (wh : Int) (N : Nat → Nat → Int) (w : World) (hX : X ≤ 3) (hY : Y ≤ 3)
    (hrow : ∀ (i j : Nat) (W : World), i < X → j < Y → Below w.heap.size w W → Calls Try.prog 66 #[.int .i64 (i : Int), .int .i64 (j : Int), .pointer (some ⟨p0, 0, none⟩), .pointer (some ⟨p1, 0, none⟩), .pointer (some ⟨p2, 0, none⟩)] W fun e w' =>
      e = .returned (.agg #[.int .i64 (N (i * Y + j) 0), .int .i64 (N (i * Y + j) 1), .int .i64 (N (i * Y + j) 2), .int .i64 (N (i * Y + j) 3)]) ∧ Below W.heap.size W w') :
    Calls Try.prog 56 #[.int .i64 (X : Int), .int .i64 (Y : Int), .int .i64 wh, .func (.func 66) #[] #[.pointer (some ⟨p0, 0, none⟩), .pointer (some ⟨p1, 0, none⟩), .pointer (some ⟨p2, 0, none⟩)]] w fun e w' => ∃ u, e = .returned (.agg #[.int .i64 (X : Int), .int .i64 (Y : Int), .int .i64 wh, u]) ∧
      OwnRows w' w.heap.size w'.heap.size u (make.rowsOf N (X * Y)) ∧ Below w.heap.size w w' := by
  have HC : Hid (∀ W, Below w.heap.size w W → Calls Try.prog 102 #[.int .i64 (X : Int), .int .i64 (Y : Int), .func (.func 66) #[] #[.pointer (some ⟨p0, 0, none⟩), .pointer (some ⟨p1, 0, none⟩), .pointer (some ⟨p2, 0, none⟩)]] W fun e w' => ∃ u, e = .returned u ∧
      OwnRows w' W.heap.size w'.heap.size u (make.rowsOf N (X * Y)) ∧ Below W.heap.size W w') := Lib.hid (fun W hW => make_anyR p0 p1 p2 X Y N W hX hY (fun i j W' h1 h2 hb => hrow i j W' h1 h2 (below_tr hW hb)))
  clear hrow
  go_enter Try.func56, Try.ntmps56
  go_wp2_with fail
  refine (HC.out _ (below_al (Below.refl _ _) _)).mono ?_
  rintro e w1 ⟨u, rfl, hu, hb⟩
  obtain ⟨va, vl, vc, rfl⟩ := hu.rows.shape
  have HU := Lib.hid hu
  have HB := Lib.hid hb
  have HRS := Lib.hid ((Blk.new w 24 #[.int .i64 0, .int .i64 0, .int .i64 0, .slice none 0 0]).below hb)
  obtain ⟨r0, r1, r2, r3, r4⟩ := four_cells HRS.out
  have rf : ∀ k, w1.frozen? ⟨w.heap.size, k, none⟩ = false := fun k => Joins.unfrozen_of_block HRS.out k
  clear hu hb
  go_wp2_with fail
  refine bodyPost_ret (v := .agg #[.int .i64 (X : Int), .int .i64 (Y : Int), .int .i64 wh, .slice va vl vc]) (by simp [results, Try.results56, go_sem, r0, r1, r2, r3]) rfl ⟨_, rfl, ?_, ?_⟩
  · refine (HU.out.wrote (S := fun p => p.block < w.heap.size + 1) ?_ (fun p hp => .inl (by simpa using hp))).mono (by simp) (by simp [World.setCell])
    repeat (first | exact Wrote.refl _ _ | refine Wrote.setCell ?_ (by simp) _)
  · repeat (refine Below.setCell ?_ (by simp <;> omega) _)
    exact below_tr (below_al (Below.refl _ _) _) HB.out

/-! ### plain -/
def pair (p q m : Int) : Nat → Int
  | 0 => (m - p) * (m - q)
  | 1 => (m - p) * q
  | 2 => p * (m - q)
  | _ => p * q
def N (fs ss : List Int) (m : Int) (r : Nat) : Nat → Int := pair (fs.getD (r / ss.length) 0) (ss.getD (r % ss.length) 0) m
theorem N_at (fs ss : List Int) (m : Int) (a c : Nat) (hc : c < ss.length) : N fs ss m (a * ss.length + c) = pair (fs.getD a 0) (ss.getD c 0) m := by
  unfold N
  rw [show (a * ss.length + c) / ss.length = a from by rw [Nat.mul_comm, Nat.mul_add_div (by omega), Nat.div_eq_of_lt hc, Nat.add_zero],
    show (a * ss.length + c) % ss.length = c from by rw [Nat.mul_comm, Nat.mul_add_mod, Nat.mod_eq_of_lt hc]]
theorem prod_bd {a b m : Int} (h0 : 0 ≤ a) (h1 : a ≤ m) (h2 : 0 ≤ b) (h3 : b ≤ m) : 0 ≤ a * b ∧ a * b ≤ m * m :=
  ⟨Int.mul_nonneg h0 h2, Int.mul_le_mul h1 h3 h2 (by omega)⟩
theorem sq_bd {m : Int} (h1 : 1 ≤ m) (h2 : m ≤ 31) : 1 ≤ m * m ∧ m * m ≤ 961 := by
  have h := prod_bd (a := m) (b := m) (m := 31) (by omega) h2 (by omega) h2
  refine ⟨?_, by omega⟩
  have := Int.mul_le_mul (a := 1) (b := 1) (c := m) (d := m) h1 h1 (by omega) (by omega)
  omega
theorem four (p q m : Int) (hp : 0 ≤ p) (hp' : p ≤ m) (hq : 0 ≤ q) (hq' : q ≤ m) :
    (∀ k, k < 4 → 0 ≤ pair p q m k ∧ pair p q m k ≤ m * m) ∧ pair p q m 0 + pair p q m 1 + pair p q m 2 + pair p q m 3 = m * m := by
  have a0 := prod_bd (a := m - p) (b := m - q) (m := m) (by omega) (by omega) (by omega) (by omega)
  have a1 := prod_bd (a := m - p) (b := q) (m := m) (by omega) (by omega) (by omega) (by omega)
  have a2 := prod_bd (a := p) (b := m - q) (m := m) (by omega) (by omega) (by omega) (by omega)
  have a3 := prod_bd (a := p) (b := q) (m := m) (by omega) (by omega) (by omega) (by omega)
  refine ⟨fun k hk => ?_, ?_⟩
  · match k, hk with
    | 0, _ => exact a0
    | 1, _ => exact a1
    | 2, _ => exact a2
    | 3, _ => exact a3
  · show (m - p) * (m - q) + (m - p) * q + p * (m - q) + p * q = m * m
    have e1 : (m - p) * (m - q) = m * m - m * q - (p * m - p * q) := by rw [Int.sub_mul, Int.mul_sub, Int.mul_sub]
    have e2 : (m - p) * q = m * q - p * q := by rw [Int.sub_mul]
    have e3 : p * (m - q) = p * m - p * q := by rw [Int.mul_sub]
    omega
/-- a list of 1 to 3 numbers of 0..m -/
def good (xs : List Int) (m : Int) : Prop := (1 ≤ xs.length ∧ xs.length ≤ 3) ∧ ∀ k (h : k < xs.length), 0 ≤ xs[k] ∧ xs[k] ≤ m
open Classical in
noncomputable def goodB (xs : List Int) (m : Int) : Bool := if good xs m then true else false
theorem goodB_yes {xs : List Int} {m : Int} (h : good xs m) : goodB xs m = true := if_pos h
theorem goodB_no {xs : List Int} {m : Int} (h : ¬ good xs m) : goodB xs m = false := if_neg h
def all (fs ss : List Int) (m : Int) : Prop := (1 ≤ m ∧ m ≤ 31) ∧ good fs m ∧ good ss m
open Classical in
noncomputable def res (fs ss : List Int) (m : Int) : make.Res := if all fs ss m then ⟨fs.length, ss.length, m * m, make.rowsOf (N fs ss m) (fs.length * ss.length), true⟩ else make.Res.zero
theorem res_yes {fs ss : List Int} {m : Int} (h : all fs ss m) : res fs ss m = ⟨fs.length, ss.length, m * m, make.rowsOf (N fs ss m) (fs.length * ss.length), true⟩ := if_pos h
theorem res_no {fs ss : List Int} {m : Int} (h : ¬ all fs ss m) : res fs ss m = make.Res.zero := if_neg h
theorem len9 {fs ss : List Int} {m : Int} (h : all fs ss m) : fs.length * ss.length ≤ 9 := Nat.mul_le_mul h.2.1.1.2 h.2.2.1.2
theorem tot (fs ss : List Int) (m : Int) : total (res fs ss m).rows ≤ 1048576 := by
  by_cases h : all fs ss m
  · rw [res_yes h]; exact make.total_rowsOf _ _ (len9 h)
  · rw [res_no h]; exact Nat.zero_le _
theorem getD_at {xs : List Int} {k : Nat} (h : k < xs.length) : xs.getD k 0 = xs[k] := by simp [List.getD, h]
theorem box_ok {fs ss : List Int} {m : Int} (h : all fs ss m) : okBox fs.length ss.length (m * m) (make.rowsOf (N fs ss m) (fs.length * ss.length)) := by
  obtain ⟨⟨m1, m2⟩, ⟨⟨f1, f2⟩, hf⟩, ⟨s1, s2⟩, hs⟩ := h
  have hsq := sq_bd m1 m2
  refine make.ok_rowsOf ⟨⟨by omega, by omega⟩, by omega, by omega⟩ (by omega) (fun r hr => ?_)
  have hc : r % ss.length < ss.length := Nat.mod_lt _ (by omega)
  have ha : r / ss.length < fs.length := Nat.div_lt_of_lt_mul (by rw [Nat.mul_comm]; exact hr)
  have a1 := hf _ ha
  have a2 := hs _ hc
  rw [← getD_at ha] at a1
  rw [← getD_at hc] at a2
  have h4 := four _ _ m a1.1 a1.2 a2.1 a2.2
  exact make.okRow_quad h4.1 h4.2

/-! ### the parts -/
set_option maxHeartbeats 1000000 in
theorem chances (v : Value) (xs : List Int) (m : Int) (w : World) (h : Ints w v xs) :
    Calls Try.prog 64 #[v, .int .i64 m] w fun e w' => e = .returned (.bool (goodB xs m)) ∧ w = w' := by
  obtain ⟨A, b, o, cap, rfl, hcap, hmax, hA, hc⟩ := h.form
  have hm : (xs.length : Int) ≤ 9223372036854775807 := by unfold maxLen at hmax; omega
  clear h hmax
  go_enter Try.func64, Try.ntmps64
  go_wp2
  go_loopw [4, 5] (fun q i wr => ∃ k : Nat, k ≤ xs.length ∧ i = .int .i64 k ∧ q = .bool false ∧ Hid (∀ j (h : j < xs.length), j < k → 0 ≤ xs[j] ∧ xs[j] ≤ m) ∧ w = wr) (fun _ i _ => xs.length - (intOf i).toNat)
  case atStart => exact ⟨0, Nat.zero_le _, rfl, rfl, fun j _ hj => by omega, rfl⟩
  case round =>
    obtain ⟨k, hk, rfl, rfl, hH, rfl⟩ := hrel
    by_cases hlt : k < xs.length
    · have hkz : (k : Int) < (xs.length : Int) := by omega
      obtain rfl := hA (by omega)
      have g0 := hc k hlt
      have HC := Lib.hid hc
      clear hc hA
      by_cases hin : 0 ≤ xs[k] ∧ xs[k] ≤ m
      · obtain ⟨i1, i2⟩ := hin
        go_wp2_with fail
        refine (val.in_yes _ _ _ _ i1 i2).mono ?_
        rintro e w' ⟨rfl, rfl⟩
        go_wp2_with fail
        go_roundw
        case rel =>
          refine ⟨k + 1, by omega, by go_num, rfl, fun j hj hj' => ?_, by first | rfl | trivial⟩
          by_cases e : j = k
          · subst e; exact ⟨i1, i2⟩
          · exact hH.out j hj (by omega)
        case measure => simp [intOf]; omega
      · have hbad : xs[k] < 0 ∨ m < xs[k] := by omega
        have HN : Hid (¬ good xs m) := Lib.hid (fun h => hin (h.2 k hlt))
        clear hin
        go_wp2_with fail
        refine (val.in_no _ _ _ _ hbad).mono ?_
        rintro e w' ⟨rfl, rfl⟩
        clear hbad
        go_wp2_with fail
        go_ret
        exact ⟨val.ret_b (goodB_no HN.out).symm, rfl⟩
    · have hkz : ¬ (k : Int) < (xs.length : Int) := by omega
      clear hc hA
      by_cases hl : 1 ≤ xs.length ∧ xs.length ≤ 3
      · have HN : Hid (good xs m) := Lib.hid ⟨hl, fun j hj => hH.out j hj (by omega)⟩
        obtain ⟨l1, l2⟩ := hl
        go_wp2_with fail
        refine (val.in_yes _ _ _ _ (by omega) (by omega)).mono ?_
        rintro e w' ⟨rfl, rfl⟩
        go_wp2_with fail
        go_ret
        exact ⟨val.ret_b (goodB_yes HN.out).symm, rfl⟩
      · have HN : Hid (¬ good xs m) := Lib.hid (fun h => hl h.1)
        have hbad : (xs.length : Int) < 1 ∨ 3 < (xs.length : Int) := by omega
        clear hl
        go_wp2_with fail
        refine (val.in_no _ _ _ _ hbad).mono ?_
        rintro e w' ⟨rfl, rfl⟩
        clear hbad
        go_wp2_with fail
        go_ret
        exact ⟨val.ret_b (goodB_no HN.out).symm, rfl⟩

theorem wraps {p q m : Int} (hp : 0 ≤ p) (hp' : p ≤ m) (hq : 0 ≤ q) (hq' : q ≤ m) (m1 : 1 ≤ m) (m2 : m ≤ 31) :
    IntKind.i64.wrap ((m - p) * (m - q)) = (m - p) * (m - q) ∧ IntKind.i64.wrap ((m - p) * q) = (m - p) * q ∧ IntKind.i64.wrap (p * (m - q)) = p * (m - q) ∧ IntKind.i64.wrap (p * q) = p * q := by
  have h := (four p q m hp hp' hq hq').1
  have hs := sq_bd m1 m2
  have a0 := h 0 (by omega)
  have a1 := h 1 (by omega)
  have a2 := h 2 (by omega)
  have a3 := h 3 (by omega)
  simp only [pair] at a0 a1 a2 a3
  exact ⟨IntWalk.i64_in _ (by omega), IntWalk.i64_in _ (by omega), IntWalk.i64_in _ (by omega), IntWalk.i64_in _ (by omega)⟩

set_option maxHeartbeats 1000000 in
theorem clo (p0 p1 p2 : Nat) (fs ss : List Int) (m : Int) (a c : Nat) (fv sv : Value) (w : World) (h0 : w.cell? ⟨p0, 0, none⟩ = some fv) (h1 : w.cell? ⟨p1, 0, none⟩ = some sv) (h2 : w.cell? ⟨p2, 0, none⟩ = some (.int .i64 m))
    (hf : Ints w fv fs) (hs : Ints w sv ss) (hall : all fs ss m) (ha : a < fs.length) (hc : c < ss.length) :
    Calls Try.prog 66 #[.int .i64 (a : Int), .int .i64 (c : Int), .pointer (some ⟨p0, 0, none⟩), .pointer (some ⟨p1, 0, none⟩), .pointer (some ⟨p2, 0, none⟩)] w fun e w' =>
      e = .returned (.agg #[.int .i64 (N fs ss m (a * ss.length + c) 0), .int .i64 (N fs ss m (a * ss.length + c) 1), .int .i64 (N fs ss m (a * ss.length + c) 2), .int .i64 (N fs ss m (a * ss.length + c) 3)]) ∧ Below w.heap.size w w' := by
  rw [N_at fs ss m a c hc]
  obtain ⟨⟨m1, m2⟩, ⟨_, hff⟩, ⟨_, hss⟩⟩ := hall
  have f1 := hff a ha
  have f2 := hss c hc
  obtain ⟨A, b, o, cap, rfl, _, _, hA, hcell⟩ := hf.form
  obtain ⟨A', b', o', cap', rfl, _, _, hA', hcell'⟩ := hs.form
  obtain rfl := hA (by omega)
  obtain rfl := hA' (by omega)
  have g1 := hcell a ha
  have g2 := hcell' c hc
  rw [getD_at ha, getD_at hc]
  generalize fs[a] = p at *
  generalize ss[c] = q at *
  obtain ⟨fp, fp'⟩ := f1
  obtain ⟨fq, fq'⟩ := f2
  obtain ⟨k1, k2, k3, k4⟩ := wraps fp fp' fq fq' m1 m2
  have i1 : (a : Int) < (fs.length : Int) := by omega
  have i2 : (c : Int) < (ss.length : Int) := by omega
  have l0 : p0 < w.heap.size := World.block_lt_of_cell? _ _ h0
  have l1 : p1 < w.heap.size := World.block_lt_of_cell? _ _ h1
  have l2 : p2 < w.heap.size := World.block_lt_of_cell? _ _ h2
  have l3 : b < w.heap.size := World.block_lt_of_cell? _ _ g1
  have l4 : b' < w.heap.size := World.block_lt_of_cell? _ _ g2
  clear hff hss hcell hcell' hA hA' hf hs
  go_enter Try.func66, Try.ntmps66
  go_wp2_with fail
  go_quiet (fail)
  go_wp2_with fail
  refine bodyPost_ret (v := .agg #[.int .i64 (pair p q m 0), .int .i64 (pair p q m 1), .int .i64 (pair p q m 2), .int .i64 (pair p q m 3)]) (by simp [results, Try.results66, go_sem, pair]) rfl ⟨rfl, ?_⟩
  repeat (first | exact Below.refl _ _ | refine below_drewN ?_ _ | refine below_dr ?_ | refine below_al ?_ _ | refine Below.setCell ?_ (by simp <;> omega) _)


end Go.Proofs.Ytkajebhagkbcaaa.prod
