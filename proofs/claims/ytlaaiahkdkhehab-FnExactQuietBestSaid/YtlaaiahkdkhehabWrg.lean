/- WorthRange of the model and of the program. -/
import Derived.Test.YtlaaiahkdkhehabExw
import Derived.Test.YtlaaiahkdkhehabMost
import Derived.Test.YtlaaiahkdkhehabMaxi
namespace Go.Proofs.Ytlaaiahkdkhehab.wrg
open Go.RowKit Go.Deep Go.Proofs.Ytlaaiahkdkhehab.base
open Go.Proofs.Ytlaaiahkdkhehab.ints (ret_int infoInt infoInts)
open Go.Proofs.Ytlaaiahkdkhehab.rws (total)
open Go.Proofs.Ytlaaiahkdkhehab.boxl (Pl)
open Go.Proofs.Ytlaaiahkdkhehab.ext (ext exts len_exts ext_ok ext_tot)
open Go.Proofs.Ytlaaiahkdkhehab.worth (okFun funB funB_yes funB_no worth)
open Go.Proofs.Ytlaaiahkdkhehab.maxi (bst bst_all bst_lt bst_new bst_old lst lst_new lst_old at_ at_get)
open Go.Proofs.Ytlaaiahkdkhehab.exw (wl len_wl data data_yes data_no all_ext)

/-- the worths, one after another -/
def G (fss : List (List Int)) : Nat → Int := at_ (wl fss 24)
theorem G_at (fss : List (List Int)) {i : Nat} (h : i < 24) : G fss i = worth fss (ext i) := by simp [G, at_, wl, List.getD, h, exw.g]
def lo (fss : List (List Int)) : Int := lst (G fss) 24
def hi (fss : List (List Int)) : Int := G fss (bst (G fss) 24)
open Classical in
noncomputable def res (fss : List (List Int)) : Int × Int × Bool := if okFun 2 2 fss then (lo fss, hi fss, true) else (0, 0, false)
theorem res_yes {fss : List (List Int)} (h : okFun 2 2 fss) : res fss = (lo fss, hi fss, true) := if_pos h
theorem res_no {fss : List (List Int)} (h : ¬ okFun 2 2 fss) : res fss = (0, 0, false) := if_neg h



theorem most_any (a b : Int) (w : World) : Calls Try.prog 100 #[.int .i64 a, .int .i64 b] w fun e w' => e = .returned (.int .i64 (if a < b then b else a)) ∧ w = w' := by
  by_cases h : b < a
  · rw [if_neg (by omega)]; exact part.most_fst a b w h
  · have e : (if a < b then b else a) = b := by split <;> omega
    rw [e]; exact part.most_snd a b w h






end Go.Proofs.Ytlaaiahkdkhehab.wrg
