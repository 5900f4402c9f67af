/- Codes in the model: l9Code, l9Count, l9Scores, l9Total; IsCode, CodeScores, CodeTotal. -/
import Derived.Test.YtnjaocgciokpaabCdm
import Derived.Test.YtnjaocgciokpaabLmm
import Derived.Test.YtnjaocgciokpaabApp
namespace Go.Proofs.Ytnjaocgciokpaab.cds
open Go.RowKit Go.Deep Go.Proofs.Ytnjaocgciokpaab.base
open Go.Proofs.Ytnjaocgciokpaab.ints (ret_int infoInt)
open Go.Proofs.Ytnjaocgciokpaab.val (ret_b)
open Go.Proofs.Ytnjaocgciokpaab.play (within withinB withinB_yes withinB_no)
open Go.Proofs.Ytnjaocgciokpaab.cdm

theorem code_of {n : Int} {cs : List Int} (h : 1 ≤ n ∧ n ≤ 3) : withinB (2 ^ n.toNat) 0 1 cs = codeB n cs := by
  by_cases hw : within (2 ^ n.toNat) 0 1 cs
  · rw [withinB_yes hw, codeB_yes ⟨h, hw⟩]
  · rw [withinB_no hw, codeB_no (fun h' => hw h'.2)]






end Go.Proofs.Ytnjaocgciokpaab.cds
