/- RankOfScene of the program. -/
import Derived.Test.YtkikdecepdbbnaaRkm
import Derived.Test.YtkikdecepdbbnaaScp
namespace Go.Proofs.Ytkikdecepdbbnaa.rki
open Go.RowKit Go.Deep Go.Proofs.Ytkikdecepdbbnaa.base
open Go.Proofs.Ytkikdecepdbbnaa.ints (ret_int infoInt)
open Go.Proofs.Ytkikdecepdbbnaa.rws (total len_le_total)
open Go.Proofs.Ytkikdecepdbbnaa.scm
open Go.Proofs.Ytkikdecepdbbnaa.rkm

def u64s (T : List Nat) : List Value := T.map (fun b => .int .u64 ((b : Nat) : Int))
theorem len_u64s (T : List Nat) : (u64s T).length = T.length := by simp [u64s]
theorem u64s_snoc (T : List Nat) (b : Nat) : u64s T ++ [.int .u64 (b : Int)] = u64s (T ++ [b]) := by simp [u64s]
theorem get_u64s {T : List Nat} {k : Nat} (h : k < T.length) : (u64s T)[k]? = some (.int .u64 ((T[k] : Nat) : Int)) := by simp [u64s, h]
theorem rising_one {n k : Nat} (h : k < n) : rising 0 ((n : Int) - 1) [(k : Int)] := fun j hj => by
  have : j = 0 := by simp at hj; omega
  subst this
  exact ⟨by simp, by simp; omega, fun h0 => by omega⟩
theorem odd_one (xss : List (List Int)) (k : Nat) : scr.odd xss 0 [(k : Int)] = mk xss k := by simp [scr.odd, mk]
theorem min64 {r b : Nat} (h : b ≠ 0) : (if r ^^^ b < r then ((r ^^^ b : Nat) : Int) else (r : Int)) = ((stp r b : Nat) : Int) := by
  rw [← min_stp h]
  by_cases g : r ≤ r ^^^ b
  · rw [if_pos g, if_neg (by omega)]
  · rw [if_neg g, if_pos (by omega)]
theorem basis_lt {x : Int} {xss : List (List Int)} {ws : List Int} (hok : okScene x xss ws) : ∀ k, k ≤ xss.length → ∀ b ∈ basis xss k, b < 2 ^ 12
  | 0, _, b, hb => by simp [basis] at hb
  | k + 1, hk, b, hb => by
    have ih := basis_lt hok k (by omega)
    by_cases hz : red (basis xss k) (mk xss k) = 0
    · rw [basis_zero hz] at hb; exact ih b hb
    · rw [basis_more hz] at hb
      rcases List.mem_append.1 hb with hb | hb
      · exact ih b hb
      · simp at hb; subst hb
        refine red_lt (m := 12) _ _ ih ?_
        unfold mk
        have hkl : k < xss.length := by omega
        rw [show xss.getD k [] = xss[k] by simp [List.getD, hkl]]
        exact scr.mask_lt12 (hok.ctx k hkl).2 hok.ev1 (by decide)


theorem infoUint : (Try.prog.info? 66).map (fun i => (i.zero, i.size, i.bytes)) = some (some (.int .u64 0), 1, 8) := by kernel_rfl
set_option maxRecDepth 100000 in
set_option maxHeartbeats 4000000 in
theorem impl_any (x : Int) (u : Value) (xss : List (List Int)) (v : Value) (ws : List Int) (w : World) (h : scene.GV w v ws u xss) (hm : total xss ≤ 1048576) :
    Calls Try.prog 30 #[.agg #[.int .i64 x, u, v]] w fun e w' => e = .returned (.tuple #[.int .i64 (rankR x xss ws).1, .bool (rankR x xss ws).2]) ∧ Below w.heap.size w w' := by
  obtain ⟨i0, hi, hz0, hz1, hz2⟩ := info_parts infoUint
  obtain ⟨A, cap, rfl⟩ : ∃ A c, u = .slice A xss.length c := by obtain ⟨A, b, o, cap, R, hu, _⟩ := h.rows.form; exact ⟨A, cap, hu⟩
  obtain ⟨C, cap', rfl⟩ : ∃ A c, v = .slice A ws.length c := by obtain ⟨A, c, hv, _⟩ := h.ints; exact ⟨A, c, by rw [hv, len_i64s]⟩
  have H := Lib.hid h
  have K0 := Lib.hid (Blk.new w 28 #[.int .i64 x, .slice A xss.length cap, .slice C ws.length cap'])
  have HI := Lib.hid (scv.impl_scene x _ xss _ ws (w.alloc (.cells #[.int .i64 x, .slice A xss.length cap, .slice C ws.length cap'] 28)) (h.below (below_al (Below.refl _ _) _)) hm)
  clear h
  by_cases hok : okScene x xss ws
  · have HI := HI
    rw [sceneB_yes hok] at HI
    have HR : Hid (rankR x xss ws = (((basis xss xss.length).length : Int), true)) := Lib.hid (rankR_yes hok)
    have hx10 := hok.len
    have HOD := Lib.hid (fun (W : World) (lv : Value) (k : Nat) (hW : Below w.heap.size w W) (hl : Ints W lv [(k : Int)]) (hk : k < xss.length) => scp.oddEvents x _ xss _ ws lv [(k : Int)] W (H.out.below hW) hl hok (rising_one hk))
    have HBL := Lib.hid (basis_lt hok)
    have HBO := Lib.hid (basis_ok xss)
    have HML : Hid (∀ k, k < xss.length → mk xss k < 2 ^ 12) := Lib.hid (fun k hk => by
      unfold mk
      rw [show xss.getD k [] = xss[k] by simp [List.getD, hk]]
      exact scr.mask_lt12 (hok.ctx k hk).2 hok.ev1 (by decide))
    clear hok
    obtain ⟨c0, c1, c2, c3⟩ := scene.three_cells K0.out
    go_enter Try.func30, Try.ntmps30
    go_wp2_with fail
    refine HI.out.mono ?_
    rintro e w1 ⟨rfl, hb1⟩
    have B1 := Lib.hid (below_tr (below_al (Below.refl w.heap.size w) _) hb1)
    have K1 := Lib.hid (K0.out.below hb1)
    clear c0 c1 c2 c3 hb1 K0 HI
    obtain ⟨c0, c1, c2, c3⟩ := scene.three_cells K1.out
    have O1 : Hid (w1.ownsRow w.heap.size 66 1 (.slice none 0 0) 0 (u64s (basis xss 0))) := Lib.hid (World.ownsRow_nil _ _ _ _)
    go_wp2_with fail
    clear c0 c1 c2 c3
    go_loopw [4, 5, 6, 8, 15] (fun out z5 z6 z8 i wr => ∃ (k m : Nat), k ≤ xss.length ∧ i = .int .i64 k ∧ (∃ z, z5 = z) ∧ (∃ z, z6 = z) ∧ (∃ z, z8 = z) ∧ Hid (wr.ownsRow w.heap.size 66 1 out m (u64s (basis xss k))) ∧ Hid (Below w.heap.size w wr) ∧ Hid (Blk wr w.heap.size 28 #[.int .i64 x, .slice A xss.length cap, .slice C ws.length cap'])) (fun _ _ _ _ i _ => xss.length - (intOf i).toNat)
    case atStart => exact ⟨0, 0, Nat.zero_le _, rfl, ⟨_, rfl⟩, ⟨_, rfl⟩, ⟨_, rfl⟩, O1, B1, K1⟩
    case round =>
      obtain ⟨k, m, hk, rfl, ⟨y5, rfl⟩, ⟨y6, rfl⟩, ⟨y8, rfl⟩, hO, hB, hK⟩ := hrel
      clear O1 B1 K1
      obtain ⟨wi, rfl⟩ : ∃ wi : World, wi = wr := ⟨_, rfl⟩
      obtain rfl : m = (basis xss k).length := by
        have := hO.out.1
        rw [len_u64s] at this; omega
      obtain ⟨sa, sc, rfl⟩ : ∃ a c, u4 = .slice a (basis xss k).length c := by
        rcases hO.out.2 with ⟨h1, h2⟩ | ⟨g, c, cur, hv, _⟩
        · exact ⟨_, _, by rw [h1, h2]⟩
        · exact ⟨_, _, hv⟩
      obtain ⟨c0, c1, c2, c3⟩ := scene.three_cells hK.out
      by_cases hlt : k < xss.length
      · have hkz : (k : Int) < (xss.length : Int) := by omega
        have hone : Ints (wi.alloc (.cells #[.int .i64 (k : Int)] 3)) (.slice (some ⟨wi.heap.size, 0, none⟩) 1 1) [(k : Int)] := ⟨some ⟨wi.heap.size, 0, none⟩, 1, rfl, Nat.le_refl _, by decide, fun j q hq => by
          have hj : j = 0 := by
            rcases Nat.lt_or_ge j 1 with g | g
            · omega
            · rw [List.getElem?_eq_none (by simpa [i64s] using g)] at hq; cases hq
          subst hj
          refine ⟨wi.heap.size, 0, rfl, ?_⟩
          rw [← hq]
          exact Joins.cell_of_block (Blk.new wi 3 #[.int .i64 (k : Int)]) 0⟩
        have HOE := Lib.hid (HOD.out _ _ k (below_al hB.out (.cells #[.int .i64 (k : Int)] 3)) hone hlt)
        have hml := HML.out k hlt
        have HE := Lib.hid (odd_one xss k)
        rw [HE.out] at HOE
        clear hone
        go_wp2_with fail
        refine HOE.out.mono ?_
        rintro e w2 ⟨rfl, hb⟩
        have B2 := Lib.hid (below_tr (below_al hB.out _) hb)
        have K2 := Lib.hid ((hK.out.alloc _).below hb)
        have O2 := Lib.hid (app.owns_below (hO.out.alloc _) hb)
        clear hb HOE c0 c1 c2 c3
        obtain ⟨hbt, hbs1, hbs2, hbl⟩ := HBO.out k
        have HTL := Lib.hid hbt
        have HLT := Lib.hid (HBL.out k (by omega))
        have hsl := app.sl_of_owns O2.out
        obtain ⟨A3, g, o3, c3, hv3, _, _, hA3, hcl⟩ := hsl.form
        rw [len_u64s] at hv3 hA3
        injection hv3 with v1 v2 v3
        subst v1
        have HCL : Hid (∀ j (hj : j < (basis xss k).length), w2.cell? ⟨g, o3 + j, none⟩ = some (.int .u64 (((basis xss k)[j] : Nat) : Int))) := Lib.hid (fun j hj => hcl j _ (get_u64s hj))
        have HA3 := Lib.hid hA3
        clear hbt hbs1 hbs2 hsl hcl hA3 v2 v3 HE
        go_wp2_with fail
        go_loopw [6, 8, 24] (fun r _ j wr => ∃ (t q : Nat), t ≤ (basis xss k).length ∧ j = .int .i64 t ∧ r = .int .u64 (q : Int) ∧ q < 4096 ∧ Hid (q = red ((basis xss k).take t) (mk xss k)) ∧ w2 = wr) (fun _ _ j _ => (basis xss k).length - (intOf j).toNat)
        case atStart => exact ⟨0, mk xss k, Nat.zero_le _, rfl, rfl, hml, by simp [red]; exact trivial, rfl⟩
        case round =>
          obtain ⟨t, q, ht, rfl, rfl, hq, hH, rfl⟩ := hrel
          by_cases hlt2 : t < (basis xss k).length
          · have htz : (t : Int) < ((basis xss k).length : Int) := by omega
            obtain rfl := HA3.out (by omega)
            have g2 := HCL.out t hlt2
            have hne := HTL.out.ne _ (List.getElem_mem hlt2)
            have hlb := HLT.out _ (List.getElem_mem hlt2)
            have HS := Lib.hid (red_succ hlt2 (mk xss k))
            generalize (basis xss k)[t] = b at *
            have HX := bits_xor_u64_nat q b (by omega) (by omega)
            have HM := min64 (r := q) hne
            have HN : Hid (stp q b = red ((basis xss k).take (t + 1)) (mk xss k)) := Lib.hid (by rw [HS.out, hH.out])
            have HQL : Hid (stp q b < 4096) := Lib.hid (by
              unfold stp
              split
              · exact Nat.xor_lt_two_pow (n := 12) hq hlb
              · exact hq)
            clear hne hlb
            go_wp2_with fail
            go_roundw
            case rel => exact ⟨t + 1, _, by omega, by go_num, rfl, HQL.out, HN, by first | rfl | trivial⟩
            case measure => simp [intOf]; omega
          · have htz : ¬ (t : Int) < ((basis xss k).length : Int) := by omega
            have ht2 : t = (basis xss k).length := by omega
            have HQ : Hid (q = red (basis xss k) (mk xss k)) := Lib.hid (by have := hH.out; rw [ht2, List.take_length] at this; exact this)
            clear ht2
            by_cases hz : q = 0
            · have dz : ((q : Int) != 0) = false := by simp [hz]
              have HBZ := Lib.hid (basis_zero (xss := xss) (k := k) (by rw [← HQ.out]; exact hz))
              have O3 : Hid (w2.ownsRow w.heap.size 66 1 (.slice sa (basis xss k).length sc) (basis xss k).length (u64s (basis xss (k + 1)))) := Lib.hid (by rw [HBZ.out]; exact O2.out)
              clear hz
              go_wp2_with fail
              go_roundw
              case rel => exact ⟨k + 1, _, by omega, by go_num, ⟨_, rfl⟩, ⟨_, rfl⟩, ⟨_, rfl⟩, O3, B2, K2⟩
              case measure => simp [intOf]; omega
            · have dz : ((q : Int) != 0) = true := by simp [hz]
              have HBM := Lib.hid (basis_more (xss := xss) (k := k) (by rw [← HQ.out]; exact hz))
              clear hz
              have hsz := B2.out.size
              go_wp2_with (at_builtin; go_must (refine wpList_append_own _ rfl (.tmp 36) (.tmp 38) 65 rfl w.heap.size 66 i0 (.int .u64 0) 1 8 Try.underlying65 hi hz0 hz1 hz2 rfl (by decide) _ _ _ rfl (O2.out.alloc _) ⟨w2.heap.size, 0, none⟩ 1 1 [.int .u64 (q : Int)] rfl rfl ?c1 ?c2 ?c3 ?c4 ?c5 ?_))
              try (case c1 => exact app.one_at _ _ _)
              case c2 => first | rfl | (intro u hu; simp at hu; subst hu; rfl)
              case c3 => unfold maxLen; omega
              case c4 => omega
              try (case c5 => first | omega | (simp; omega))
              intro v' w3 hown' hgrow _
              have O3 : Hid (w3.ownsRow w.heap.size 66 1 v' ((basis xss k).length + 1) (u64s (basis xss (k + 1)))) := Lib.hid (by
                rw [HBM.out, ← u64s_snoc, ← HQ.out]; exact hown')
              have B3 : Hid (Below w.heap.size w w3) := Lib.hid ((below_al B2.out _).grown hgrow (by have := B2.out.size; simp; omega) (fun j hj => (O2.out.lt j hj).1))
              have K3 : Hid (Blk w3 w.heap.size 28 #[.int .i64 x, .slice A xss.length cap, .slice C ws.length cap']) := Lib.hid ((hgrow.block _ (K2.out.alloc _).lt (fun e => by
                obtain ⟨cc, hcc⟩ := make.own_type (O2.out) e.symm
                exact absurd (make.blk_type hcc K2.out) (by decide))).trans (K2.out.alloc _))
              obtain ⟨xa, xl, xc, rfl⟩ := make.shape hown'
              clear hown' hgrow hsz
              go_wp2_with fail
              go_roundw
              case rel => exact ⟨k + 1, _, by omega, by go_num, ⟨_, rfl⟩, ⟨_, rfl⟩, ⟨_, rfl⟩, O3, B3, K3⟩
              case measure => simp [intOf]; omega
      · have hkz : ¬ (k : Int) < (xss.length : Int) := by omega
        have hk2 : k = xss.length := by omega
        have HQ : Hid ((rankR x xss ws) = (((basis xss k).length : Int), true)) := Lib.hid (by rw [HR.out, hk2])
        clear hk2
        go_wp2_with fail
        go_ret2
        exact ⟨by rw [HQ.out]; rfl, hB.out⟩
  · have HI := HI
    rw [sceneB_no hok] at HI
    have HR : Hid (rankR x xss ws = (0, false)) := Lib.hid (rankR_no hok)
    clear hok
    obtain ⟨c0, c1, c2, c3⟩ := scene.three_cells K0.out
    go_enter Try.func30, Try.ntmps30
    go_wp2_with fail
    refine HI.out.mono ?_
    rintro e w1 ⟨rfl, hb1⟩
    have B1 := Lib.hid (below_tr (below_al (Below.refl w.heap.size w) _) hb1)
    clear c0 c1 c2 c3 hb1
    go_wp2_with fail
    go_ret2
    exact ⟨by rw [HR.out]; rfl, B1.out⟩


end Go.Proofs.Ytkikdecepdbbnaa.rki
