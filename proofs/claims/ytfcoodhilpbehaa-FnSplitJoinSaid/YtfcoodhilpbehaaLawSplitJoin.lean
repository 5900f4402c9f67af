/- Proved here: for all codes, the law FnSplitJoin returns true: the parts of SplitString joined again are the text, where the separator is one byte; JoinStrings and LessString answer as their models, and no two texts are each less than the other. Conditions: none beyond the row. -/
import Derived.Test.YtfcoodhilpbehaaDrj
import Derived.Test.YtfcoodhilpbehaaByt
import Derived.Test.YtfcoodhilpbehaaStd
import Derived.Test.YtfcoodhilpbehaaStg
import Derived.Test.YtfcoodhilpbehaaSth
import Derived.Test.YtfcoodhilpbehaaRows
namespace Go.Proofs.Ytfcoodhilpbehaa.lawSplitJoin
open Go.ChangeShapes Go.WideShapes Go.ChangeAt Go.RowKit Go.Deep Go.Proofs.Ytfcoodhilpbehaa.base
open Go.Proofs.Ytfcoodhilpbehaa.sta Go.Proofs.Ytfcoodhilpbehaa.stb Go.Proofs.Ytfcoodhilpbehaa.ste

theorem asym : ∀ x y : List UInt8, Op.bytesLess x y = true → Op.bytesLess y x = false
  | _, [], h => by simp [Op.bytesLess] at h
  | [], _ :: _, _ => by simp [Op.bytesLess]
  | a :: x, b :: y, h => by
    have ih := asym x y
    simp only [Op.bytesLess, Bool.or_eq_true, Bool.and_eq_true, decide_eq_true_eq, beq_iff_eq] at h
    rcases h with h | ⟨rfl, h⟩
    · have h1 : ¬ b < a := by
        rw [UInt8.lt_iff_toNat_lt] at h ⊢
        omega
      have h2 : b ≠ a := fun e => by subst e; rw [UInt8.lt_iff_toNat_lt] at h; omega
      simp [Op.bytesLess, h1, h2]
    · have h1 : ¬ a < a := by
        rw [UInt8.lt_iff_toNat_lt]
        omega
      simp [Op.bytesLess, h1, ih h]
theorem sm_bound {ss : List ByteArray} {m : Nat} (h : ∀ s ∈ ss, s.size ≤ m) : ∀ k, k ≤ ss.length → sm ss k ≤ m * k
  | 0, _ => by simp [sm]
  | k + 1, hk => by
    have h1 := sm_bound h k (by omega)
    have h2 := h ss[k] (List.getElem_mem (by omega))
    rw [sm_succ (by omega), Nat.mul_succ]
    omega
/-- the parts joined again, as the contract says it -/
theorem again {s sep : ByteArray} (hp : sep.size = 1) (hs : s.size ≤ 16) : stg.strR (std.resL s sep) sep = s ∧ stg.boolR (std.resL s sep) sep = true ∧ std.resB s sep = true ∧ (std.resL s sep).length ≤ 1048576 ∧ sm (std.resL s sep) (std.resL s sep).length ≤ 1048576 := by
  have hg : std.good s sep := ⟨hp, by omega⟩
  rw [std.resL_yes hg, std.resB_yes hg]
  have hok := sth.ok_split s (sep.data.toList.headD 0) (by omega)
  have hj := sth.jo_split s (sep.data.toList.headD 0)
  have hpos := sth.pos_split s (sep.data.toList.headD 0)
  have hJ : stg.okJ (split s (sep.data.toList.headD 0)) sep := ⟨hp, hpos, hok⟩
  have h2 := hok.2
  refine ⟨?_, stg.bool_yes hJ, rfl, by omega, by omega⟩
  rw [stg.str_yes hJ]
  show ByteArray.mk (jo _ (sep.data.toList.headD 0) _).toArray = s
  rw [hj]

set_option maxHeartbeats 4000000 in
theorem walk (A : Option Addr) (n cp : Nat) (w : World) (g : cur.Bytes w w.heap.size A n) :
    Calls Try.prog 3 #[.slice A n cp] w fun e w' => e = .returned (.bool true) ∧ Below w.heap.size w w' := by
  have HG := Lib.hid g
  have HBG := Lib.hid (drs.big_any A n cp w)
  clear g
  by_cases h1 : (n : Int) > 65536
  · have h1' : decide ((n : Int) > 65536) = true := decide_eq_true h1
    rw [h1'] at HBG
    go_enter Try.func3, Try.ntmps3
    go_wp2_with fail
    refine HBG.out.mono ?_
    rintro e w1 ⟨rfl, hb⟩
    go_wp2_with fail
    go_ret
    exact ⟨rfl, hb⟩
  have h1' : decide ((n : Int) > 65536) = false := decide_eq_false h1
  rw [h1'] at HBG
  clear h1 h1'
  go_enter Try.func3, Try.ntmps3
  go_wp2_with fail
  refine HBG.out.mono ?_
  rintro e w1 ⟨rfl, hb⟩
  have B1 := Lib.hid hb
  have HD := Lib.hid (drs.split_draw A n cp w1 (byt.bytes_below HG.out hb))
  clear hb HBG
  go_wp2_with fail
  refine HD.out.mono ?_
  rintro e w2 ⟨s, sep, hs, hp, rfl, hb⟩
  have B2 := Lib.hid (below_tr B1.out hb)
  have S2 := Lib.hid (And.intro hs hp)
  have HI := Lib.hid (std.impl_any s sep w2 (by omega) (by omega))
  obtain ⟨rb, hrb⟩ : ∃ rb, rb = std.resB s sep := ⟨_, rfl⟩
  obtain ⟨ls, hls⟩ : ∃ ls, ls = std.resL s sep := ⟨_, rfl⟩
  rw [← hrb, ← hls] at HI
  have HE := Lib.hid (And.intro hrb hls)
  clear hb HD hs hp B1 hrb hls
  go_wp2_with fail
  refine HI.out.mono ?_
  rintro e w3 ⟨vl, rfl, hv, hb⟩
  have B3 := Lib.hid (below_tr B2.out hb)
  have V3 := Lib.hid hv.strs
  have HD := Lib.hid (drj.join_draw A n cp w3 (byt.bytes_below HG.out B3.out))
  clear hb hv HI B2
  go_wp2_with fail
  refine HD.out.mono ?_
  rintro e w4 ⟨vk, ss, mark, hl, hz, hm, rfl, hv, hb⟩
  have B4 := Lib.hid (below_tr B3.out hb)
  have V4 := Lib.hid (V3.out.below hb)
  have hz2 : sm ss ss.length ≤ 1048576 := by
    have := sm_bound hz ss.length (Nat.le_refl _)
    have h5 : 5000 * ss.length ≤ 5000 * 4 := Nat.mul_le_mul_left _ hl
    omega
  obtain ⟨ak, ck, rfl⟩ : ∃ a c, vk = .slice a ss.length c := by obtain ⟨A, b, o, cap, hv, _⟩ := hv.form; exact ⟨A, cap, hv⟩
  have K4 := Lib.hid hv
  have HIM := Lib.hid (fun W (h : Strs W (.slice ak ss.length ck) ss) => stg.impl_any ak ck ss mark W h (by omega) hz2 (by omega))
  have HSP := Lib.hid (fun W (h : Strs W (.slice ak ss.length ck) ss) => stg.spec_any ak ck ss mark W h (by omega) hz2 (by omega))
  obtain ⟨R, hR⟩ : ∃ R, R = stg.strR ss mark := ⟨_, rfl⟩
  obtain ⟨B, hB⟩ : ∃ B, B = stg.boolR ss mark := ⟨_, rfl⟩
  rw [← hR, ← hB] at HSP HIM
  have tb : (B != B) = false := bne_self_eq_false _
  clear hb hv HD V3 B3 hR hB hz hz2 hl hm
  go_wp2_with fail
  refine (HIM.out _ K4.out).mono ?_
  rintro e w5 ⟨rfl, hb⟩
  have B5 := Lib.hid (below_tr B4.out hb)
  have V5 := Lib.hid (V4.out.below hb)
  have K5 := Lib.hid (K4.out.below hb)
  clear hb V4 B4 K4 HIM
  go_wp2_with fail
  refine (HSP.out _ K5.out).mono ?_
  rintro e w6 ⟨rfl, hb⟩
  have B6 := Lib.hid (below_tr B5.out hb)
  have V6 := Lib.hid (V5.out.below hb)
  clear hb V5 B5 K5 HSP
  have HD := Lib.hid (drs.less_draw A n cp w6 (byt.bytes_below HG.out B6.out))
  go_wp2_with fail
  refine HD.out.mono ?_
  rintro e w7 ⟨a, b, ha, hb', rfl, hb⟩
  have B7 := Lib.hid (below_tr B6.out hb)
  have V7 := Lib.hid (V6.out.below hb)
  obtain ⟨x, y, hx, hxy⟩ : ∃ x y : Bool, (x = Op.bytesLess a.toList b.toList ∧ y = Op.bytesLess b.toList a.toList) ∧ (x = true → y = false) := ⟨_, _, ⟨rfl, rfl⟩, asym _ _⟩
  have HL1 := Lib.hid (fun W => drs.less_impl a b W)
  have HL2 := Lib.hid (fun W => drs.less_spec a b W)
  have HL3 := Lib.hid (fun W => drs.less_impl b a W)
  rw [← hx.1] at HL1 HL2
  rw [← hx.2] at HL3
  clear hb V6 B6 HD ha hb' hx
  -- <end>
  by_cases hp1 : sep.size = 1
  · obtain ⟨hj, hbb, hB, hl, hz⟩ := again hp1 S2.out.1
    rw [← HE.out.2] at hj hbb hl hz
    rw [← HE.out.1] at hB
    subst hB
    obtain ⟨al, cl, rfl⟩ : ∃ a c, vl = .slice a ls.length c := by obtain ⟨A, b, o, cap, hv, _⟩ := V7.out.form; exact ⟨A, cap, hv⟩
    have HJ := Lib.hid (fun W (h : Strs W (.slice al ls.length cl) ls) => stg.impl_any al cl ls sep W h hl hz (by omega))
    rw [hj, hbb] at HJ
    have hs1 : ((sep.size : Int) != 1) = false := by simp [hp1]
    clear hj hbb hl hz hp1 HE
    rcases x with _ | _
    · clear hxy
      go_wp2_with fail
      refine (HL1.out _).mono ?_
      rintro e w8 ⟨rfl, hb⟩
      have B8 := Lib.hid (below_tr B7.out hb)
      have V8 := Lib.hid (V7.out.below hb)
      clear hb
      go_wp2_with fail
      refine (HL2.out _).mono ?_
      rintro e w9 ⟨rfl, hb⟩
      have B9 := Lib.hid (below_tr B8.out hb)
      have V9 := Lib.hid (V8.out.below hb)
      clear hb
      go_wp2_with fail
      refine (HL1.out _).mono ?_
      rintro e w10 ⟨rfl, hb⟩
      have B10 := Lib.hid (below_tr B9.out hb)
      have V10 := Lib.hid (V9.out.below hb)
      clear hb
      go_wp2_with fail
      refine (HJ.out _ V10.out).mono ?_
      rintro e w11 ⟨rfl, hb⟩
      have B11 := Lib.hid (below_tr B10.out hb)
      clear hb
      go_wp2_with fail
      go_ret
      exact ⟨rfl, B11.out⟩
    · obtain rfl := hxy rfl
      go_wp2_with fail
      refine (HL1.out _).mono ?_
      rintro e w8 ⟨rfl, hb⟩
      have B8 := Lib.hid (below_tr B7.out hb)
      have V8 := Lib.hid (V7.out.below hb)
      clear hb
      go_wp2_with fail
      refine (HL2.out _).mono ?_
      rintro e w9 ⟨rfl, hb⟩
      have B9 := Lib.hid (below_tr B8.out hb)
      have V9 := Lib.hid (V8.out.below hb)
      clear hb
      go_wp2_with fail
      refine (HL1.out _).mono ?_
      rintro e w10 ⟨rfl, hb⟩
      have B10 := Lib.hid (below_tr B9.out hb)
      have V10 := Lib.hid (V9.out.below hb)
      clear hb
      go_wp2_with fail
      refine (HL3.out _).mono ?_
      rintro e w11 ⟨rfl, hb⟩
      have B11 := Lib.hid (below_tr B10.out hb)
      have V11 := Lib.hid (V10.out.below hb)
      clear hb
      go_wp2_with fail
      refine (HJ.out _ V11.out).mono ?_
      rintro e w12 ⟨rfl, hb⟩
      have B12 := Lib.hid (below_tr B11.out hb)
      clear hb
      go_wp2_with fail
      go_ret
      exact ⟨rfl, B12.out⟩
  · have hng : ¬ std.good s sep := fun k => hp1 k.1
    have hB := HE.out.1.trans (std.resB_no hng)
    have hL := HE.out.2.trans (std.resL_no hng)
    subst hB
    subst hL
    obtain ⟨al, cl, rfl⟩ : ∃ a c, vl = .slice a 0 c := by obtain ⟨A, b, o, cap, hv, _⟩ := V7.out.form; exact ⟨A, cap, hv⟩
    have hs1 : ((sep.size : Int) != 1) = true := by
      have : ¬ (sep.size : Int) = 1 := by omega
      simp [this]
    clear hp1 HE hng
    rcases x with _ | _
    · clear hxy
      go_wp2_with fail
      refine (HL1.out _).mono ?_
      rintro e w8 ⟨rfl, hb⟩
      have B8 := Lib.hid (below_tr B7.out hb)
      have V8 := Lib.hid (V7.out.below hb)
      clear hb
      go_wp2_with fail
      refine (HL2.out _).mono ?_
      rintro e w9 ⟨rfl, hb⟩
      have B9 := Lib.hid (below_tr B8.out hb)
      have V9 := Lib.hid (V8.out.below hb)
      clear hb
      go_wp2_with fail
      refine (HL1.out _).mono ?_
      rintro e w10 ⟨rfl, hb⟩
      have B10 := Lib.hid (below_tr B9.out hb)
      have V10 := Lib.hid (V9.out.below hb)
      clear hb
      go_wp2_with fail
      go_ret
      exact ⟨rfl, B10.out⟩
    · obtain rfl := hxy rfl
      go_wp2_with fail
      refine (HL1.out _).mono ?_
      rintro e w8 ⟨rfl, hb⟩
      have B8 := Lib.hid (below_tr B7.out hb)
      have V8 := Lib.hid (V7.out.below hb)
      clear hb
      go_wp2_with fail
      refine (HL2.out _).mono ?_
      rintro e w9 ⟨rfl, hb⟩
      have B9 := Lib.hid (below_tr B8.out hb)
      have V9 := Lib.hid (V8.out.below hb)
      clear hb
      go_wp2_with fail
      refine (HL1.out _).mono ?_
      rintro e w10 ⟨rfl, hb⟩
      have B10 := Lib.hid (below_tr B9.out hb)
      have V10 := Lib.hid (V9.out.below hb)
      clear hb
      go_wp2_with fail
      refine (HL3.out _).mono ?_
      rintro e w11 ⟨rfl, hb⟩
      have B11 := Lib.hid (below_tr B10.out hb)
      have V11 := Lib.hid (V10.out.below hb)
      clear hb
      go_wp2_with fail
      go_ret
      exact ⟨rfl, B11.out⟩
  -- </end>

/-! ### the frame of the row -/
theorem own : ownKnob Try.prog.godebug = none := by kernel_rfl
theorem laidOut : laidOutB Try.prog = true := by kernel_rfl
set_option maxRecDepth 100000 in
theorem lifted (os : Os) (started : os.Started) (H : Type) (enc : TypeId × Value → H) :
    ReturnsInHanded {} Try.checked os 3 .any (Rows.fnSplitJoinSpec.pre6 enc Try.prog Try.f3 Rows.fnSplitJoinRow.domain false) (Rows.fnSplitJoinSpec.post enc Try.prog Try.f3 false true false false) := by
  refine returnsInHanded_of_change (C := Try.checked) own started (by kernel_rfl) Try.func3
    (ChangeSpec.witness6 (enc := enc) (C := Try.checked) false ⟨#[], #[.slice none 0 0], []⟩ 8 (by kernel_rfl) (by kernel_rfl) (by kernel_rfl) (by kernel_rfl)) ?_
  intro W base args ds gs before hval0 hW _ _
  have hval : ∀ (j : Nat) t v, Try.f3.params[j]? = some t → args[j]? = some v → Value.okWide Try.prog W .any base t v := hval0
  have hW' := hW
  obtain ⟨p, q, hA0, hV, rfl, hfz, hnd⟩ := hW
  have hA : DataW.TrodAll enc Try.prog W 0 (fun _ => true) true Try.f3.params.toList args.toList ds p := hA0
  rw [Try.params3] at hA hval
  obtain ⟨v0, vs0, d0, ds0, p0, q0, hargs, rfl, rfl, h0, r0⟩ := trodAll_cons hA
  obtain ⟨rfl, rfl, rfl⟩ := trodAll_nil r0
  obtain rfl : args = #[v0] := by cases args; simp_all
  obtain ⟨rfl, rfl⟩ := trodVars_none hV
  have lt0 : ∀ x ∈ p0, x.block < W.heap.size := by obtain ⟨m, hm⟩ := h0; exact DataW.trod_lt m _ _ _ hm
  obtain ⟨A0, n0, c0, rfl, g0⟩ := byt.bytes_of_trod Try.underlying22 Try.underlying5 (by kernel_rfl) (hval 0 22 v0 rfl rfl) h0
  clear hA0 hval0
  refine (walk A0 n0 c0 W g0).mono fun e W' ⟨he, bel⟩ => ?_
  subst he
  exact ⟨_, rfl, _, _, _, [], _, [], hW', trodAll_mk1 (shut_bool Try.underlying4 _), (trodAll_cons_mk (Below.trod laidOut (by kernel_rfl) (of_decide_eq_true (by kernel_rfl)) h0 bel lt0) trodAll_mk0), rfl, bel.frame _, fun h => by cases h⟩

theorem over : Rows.fnSplitJoinRow.holds Try.pinned (OpenSpec.ofChange Rows.fnSplitJoinSpec) :=
  OpenClaim.holds_of_wide 3 Try.f3 rfl rfl rfl rfl rfl rfl rfl ⟨rfl, rfl, rfl, rfl, rfl⟩ rfl rfl rfl rfl rfl (by kernel_rfl) Try.func3 (by kernel_rfl)
    (of_decide_eq_true (by kernel_rfl)) (by unfold Func.isWrapper; first | (rw [if_pos (by decide +kernel)]; kernel_rfl) | (rw [if_neg (by decide +kernel)]; exact ⟨rfl, rfl⟩))
    (fun os started H enc _ => lifted os started H enc)

theorem proved : Rows.FnSplitJoinSaid := over
#print axioms proved

end Go.Proofs.Ytfcoodhilpbehaa.lawSplitJoin
