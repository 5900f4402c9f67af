/- What JoinStrings' law calls: toStringS, szStringS, l1Stands, canJoin; what comes of parts joined. -/
import Derived.Test.YtnjlginodafnjaaStb
namespace Go.Proofs.Ytnjlginodafnjaa.ste
open Go.RowKit Go.Deep Go.Proofs.Ytnjlginodafnjaa.base
open Go.Proofs.Ytnjlginodafnjaa.sta Go.Proofs.Ytnjlginodafnjaa.stb

/-- the sum of the first parts' lengths -/
def sm (ss : List ByteArray) : Nat → Nat
  | 0 => 0
  | k + 1 => sm ss k + (ss.getD k ByteArray.empty).size
theorem sm_succ {ss : List ByteArray} {k : Nat} (h : k < ss.length) : sm ss (k + 1) = sm ss k + ss[k].size := by simp [sm, List.getD, h]
theorem sm_le (ss : List ByteArray) (k : Nat) : ∀ d, sm ss k ≤ sm ss (k + d)
  | 0 => Nat.le_refl _
  | d + 1 => Nat.le_trans (sm_le ss k d) (Nat.le_add_right _ _)
theorem sm_mono (ss : List ByteArray) {j k : Nat} (h : j ≤ k) : sm ss j ≤ sm ss k := by
  have := sm_le ss j (k - j)
  rwa [show j + (k - j) = k by omega] at this
/-- what has been joined behind k parts -/
def jo (ss : List ByteArray) (b : UInt8) : Nat → List UInt8
  | 0 => []
  | k + 1 => (if k = 0 then [] else jo ss b k ++ [b]) ++ (ss.getD k ByteArray.empty).data.toList
theorem jo_len (ss : List ByteArray) (b : UInt8) : ∀ k, (jo ss b (k + 1)).length = k + sm ss (k + 1)
  | 0 => by
    rw [jo, if_pos rfl, List.nil_append, len_data]
    rw [Nat.zero_add]
    exact (Nat.zero_add _).symm
  | k + 1 => by
    have := jo_len ss b k
    rw [jo, if_neg (by omega), List.length_append, List.length_append, this, len_data]
    show _ = _ + (sm ss (k + 1) + _)
    simp only [List.length_cons, List.length_nil]
    omega
/-- a byte stands in a text -/
def stands (s : ByteArray) (b : UInt8) : Prop := ∃ k : Nat, s.data.toList[k]? = some b
/-- the parts can be joined -/
def okC (ss : List ByteArray) (b : UInt8) : Prop := (∀ k (h : k < ss.length), ¬ stands ss[k] b) ∧ (ss.length : Int) - 1 + sm ss ss.length ≤ 4000
open Classical in
noncomputable def okB (ss : List ByteArray) (b : UInt8) : Bool := if okC ss b then true else false
theorem okB_yes {ss : List ByteArray} {b : UInt8} (h : okC ss b) : okB ss b = true := if_pos h
theorem okB_no {ss : List ByteArray} {b : UInt8} (h : ¬ okC ss b) : okB ss b = false := if_neg h
open Classical in
noncomputable def stB (s : ByteArray) (b : UInt8) : Bool := if stands s b then true else false
theorem stB_yes {s : ByteArray} {b : UInt8} (h : stands s b) : stB s b = true := if_pos h
theorem stB_no {s : ByteArray} {b : UInt8} (h : ¬ stands s b) : stB s b = false := if_neg h
theorem stands_at {s : ByteArray} {b : UInt8} {k : Nat} (h : k < s.size) (e : s[k] = b) : stands s b := ⟨k, by rw [at_all s k h, e]⟩
theorem not_stands {s : ByteArray} {b : UInt8} (h : ∀ k (hk : k < s.size), s[k] ≠ b) : ¬ stands s b := by
  rintro ⟨k, hk⟩
  have hlt : k < s.size := by
    rcases Nat.lt_or_ge k s.size with g | g
    · exact g
    · rw [List.getElem?_eq_none (by rw [len_data]; exact g)] at hk; cases hk
  rw [at_all s k hlt] at hk
  injection hk with hk
  exact h k hlt hk
theorem ret_b {a b : Bool} (h : a = b) : Ending.returned (.bool a) = .returned (.bool b) := by rw [h]


set_option maxHeartbeats 400000 in
theorem l1stands (s : ByteArray) (b : UInt8) (w : World) (hs : s.size ≤ maxLen) :
    Calls Try.prog 17 #[.string s, .int .u8 b.toNat] w fun e w' => e = .returned (.bool (stB s b)) ∧ w = w' := by
  unfold maxLen at hs
  go_enter Try.func17, Try.ntmps17
  go_wp2_with fail
  go_loop [5] (fun i => ∃ k : Nat, k ≤ s.size ∧ i = .int .i64 k ∧ Hid (∀ j (h : j < s.size), j < k → s[j] ≠ b)) (fun i => s.size - (intOf i).toNat)
  case atStart => exact ⟨0, Nat.zero_le _, rfl, Lib.hid (fun j _ hj => by omega)⟩
  case round =>
    obtain ⟨k, hk, rfl, hn⟩ := hrel
    by_cases hlt : k < s.size
    · by_cases hb : s[k] = b
      · have hn0 : (((s[k]).toNat : Int) == (b.toNat : Int)) = true := by simp [hb]
        have HB := Lib.hid (stB_yes (stands_at hlt hb))
        clear hb
        go_wp2_with fail
        go_ret
        exact ⟨ret_b HB.out.symm, rfl⟩
      · have hn0 : (((s[k]).toNat : Int) == (b.toNat : Int)) = false := by
          rw [beq_eq_false_iff_ne]
          intro e
          exact hb (UInt8.toNat_inj.1 (by omega))
        have HB := Lib.hid hb
        clear hb
        go_wp2_with fail
        go_round
        case rel => exact ⟨k + 1, by omega, by go_num, Lib.hid (fun j h hj => by
          rcases Nat.lt_or_ge j k with g | g
          · exact hn.out j h g
          · obtain rfl : j = k := by omega
            exact HB.out)⟩
        case measure => simp [intOf]; omega
    · have HB := Lib.hid (stB_no (not_stands (fun j h => hn.out j h (by omega))))
      go_wp2_with fail
      go_ret
      exact ⟨ret_b HB.out.symm, rfl⟩



theorem infoStr : (Try.prog.info? 9).map (fun i => (i.zero, i.size, i.bytes)) = some (some (.string ⟨#[]⟩), 1, 16) := by kernel_rfl
set_option maxHeartbeats 1000000 in
theorem to_any (v : Value) (ss : List ByteArray) (w : World) (h : Strs w v ss) (hn : ss.length ≤ 1048576) :
    Calls Try.prog 12 #[v] w fun e w' => ∃ A c, e = .returned (.slice A ss.length c) ∧ Strs w' (.slice A ss.length c) ss ∧ Below w.heap.size w w' := by
  obtain ⟨A, b, o, cap, rfl, hcap, hmax, hA, hc⟩ := h.form
  clear h
  have hmk := run_make_row' (P := Try.prog) 22 9 (.string ⟨#[]⟩) 16 Try.underlying22 infoStr rfl .i64 .i64 ss.length (by omega) (by omega)
  have HM := Lib.hid hmax
  clear hmax
  go_enter Try.func12, Try.ntmps12
  go_wp2
  clear hmk
  go_loopw [4] (fun i wr => ∃ k, k ≤ ss.length ∧ i = .int .i64 k ∧ Below w.heap.size w wr ∧ wr.rowIs w.heap.size 9 ss.length (fun j => if j < k then .string (ss.getD j ByteArray.empty) else .string ⟨#[]⟩)) (fun i _ => ss.length - (intOf i).toNat)
  case atStart => exact ⟨0, Nat.zero_le _, rfl, (Below.refl _ _).alloc (Nat.le_refl _) _, (World.rowIs_made w _ _ _).congr (fun j _ => by simp)⟩
  case round =>
    obtain ⟨k, hk, rfl, hb, hrow⟩ := hrel
    by_cases hlt : k < ss.length
    · have hkz : (k : Int) < (ss.length : Int) := by omega
      obtain rfl := hA (by omega)
      have g0 := hc k hlt
      have hlb := World.block_lt_of_cell? _ _ g0
      have g1 : wr.cell? ⟨b, o + k, none⟩ = some (.string ss[k]) := by rw [hb.cell hlb]; exact g0
      have g2 := hrow.cell hlt
      have g3 := hrow.frozen k
      simp only [Nat.lt_irrefl, if_false] at g2
      have HR := Lib.hid hrow
      have HB := Lib.hid hb
      have HC := Lib.hid hc
      clear hrow hb hc g0 hA
      go_wp2
      go_roundw
      case rel =>
        refine ⟨k + 1, by omega, by go_num, HB.out.setCell (Nat.le_refl _) _, (HR.out.set k _).congr (fun j hj => ?_)⟩
        by_cases e : j = k
        · subst e; simp [List.getD, hlt]
        · rw [if_neg e]
          by_cases h2 : j < k
          · rw [if_pos h2, if_pos (by omega)]
          · rw [if_neg h2, if_neg (by omega)]
      case measure => simp [intOf]; omega
    · have hkz : ¬ (k : Int) < (ss.length : Int) := by omega
      have HR := Lib.hid hrow
      have HB := Lib.hid hb
      clear hrow hb hc hA
      go_wp2
      go_ret
      refine ⟨_, _, rfl, ⟨some ⟨w.heap.size, 0, none⟩, ss.length, by rw [List.length_map], by rw [List.length_map]; exact Nat.le_refl _, Nat.le_trans hcap HM.out, fun j u hu => ⟨w.heap.size, 0, rfl, ?_⟩⟩, HB.out⟩
      have hj : j < ss.length := by
        rcases Nat.lt_or_ge j ss.length with g | g
        · exact g
        · rw [List.getElem?_eq_none (by rw [List.length_map]; exact g)] at hu; cases hu
      have hcell := HR.out.cell hj
      rw [if_pos (by omega)] at hcell
      rw [List.getElem?_map, List.getElem?_eq_getElem hj] at hu
      rw [Nat.zero_add, hcell, ← Option.some.inj hu]
      simp [List.getD, hj]



set_option maxHeartbeats 1000000 in
theorem sz_any (v : Value) (ss : List ByteArray) (w : World) (h : Strs w v ss) (hz : ∀ k (h : k < ss.length), ss[k].size ≤ maxLen) :
    Calls Try.prog 10 #[v, .int .i64 1048576] w fun e w' => ∃ m : Int, e = .returned (.int .i64 m) ∧ (0 ≤ m → ss.length + sm ss ss.length ≤ 1048576) ∧ w = w' := by
  obtain ⟨A, b, o, cap, rfl, hcap, hmax, hA, hc⟩ := h.form
  clear h
  unfold maxLen at hmax
  by_cases hl : ss.length ≤ 1048576
  · have g1 : ¬ (1048576 : Int) - ss.length < 0 := by omega
    have gw : IntKind.i64.wrap ((1048576 : Int) - ss.length) = 1048576 - ss.length := IntWalk.i64_in _ (by omega)
    go_enter Try.func10, Try.ntmps10
    go_wp2_with fail
    go_loop [1, 5] (fun c i => ∃ k : Nat, k ≤ ss.length ∧ i = .int .i64 k ∧ ∃ q : Nat, c = .int .i64 (q : Int) ∧ Hid (q + ss.length + sm ss k = 1048576)) (fun _ i => ss.length - (intOf i).toNat)
    case atStart => exact ⟨0, Nat.zero_le _, rfl, 1048576 - ss.length, by congr 1; omega, Lib.hid (by simp [sm]; omega)⟩
    case round =>
      obtain ⟨k, hk, rfl, q, rfl, hq⟩ := hrel
      by_cases hlt : k < ss.length
      · have hkz : (k : Int) < (ss.length : Int) := by omega
        obtain rfl := hA (by omega)
        have g0 := hc k hlt
        have HS := Lib.hid (sm_succ hlt)
        have hq1 : q ≤ 1048576 := by have := hq.out; omega
        clear hc hA g1 gw
        have hbig := hz k hlt
        unfold maxLen at hbig
        clear hz
        obtain ⟨z, hz⟩ : ∃ z, ss[k] = z := ⟨_, rfl⟩
        rw [hz] at g0 HS hbig
        clear hz
        by_cases hsz : z.size ≤ q
        · have g2 : ¬ (q : Int) - z.size < 0 := by omega
          have g3 : IntKind.i64.wrap ((q : Int) - z.size) = q - z.size := IntWalk.i64_in _ (by omega)
          go_wp2_with fail
          go_round
          case rel => exact ⟨k + 1, by omega, by go_num, q - z.size, by congr 1; omega, Lib.hid (by have := hq.out; have := HS.out; omega)⟩
          case measure => simp [intOf]; omega
        · have g2 : (q : Int) - z.size < 0 := by omega
          have g3 : IntKind.i64.wrap ((q : Int) - z.size) = q - z.size := IntWalk.i64_in _ (by omega)
          go_wp2_with fail
          go_ret
          exact ⟨_, rfl, fun h => by omega, rfl⟩
      · have hkz : ¬ (k : Int) < (ss.length : Int) := by omega
        obtain rfl : k = ss.length := by omega
        clear hc hA
        go_wp2_with fail
        go_ret
        exact ⟨_, rfl, fun _ => by have := hq.out; omega, rfl⟩
  · have g1 : (1048576 : Int) - ss.length < 0 := by omega
    have gw : IntKind.i64.wrap ((1048576 : Int) - ss.length) = 1048576 - ss.length := IntWalk.i64_in _ (by omega)
    clear hc hA
    go_enter Try.func10, Try.ntmps10
    go_wp2_with fail
    go_ret
    exact ⟨_, rfl, fun h => by omega, rfl⟩


end Go.Proofs.Ytnjlginodafnjaa.ste
