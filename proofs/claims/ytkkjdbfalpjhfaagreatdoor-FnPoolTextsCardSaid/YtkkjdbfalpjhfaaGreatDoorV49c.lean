/- At every code: a right pool comes back from its text; what is read, written again, has just its bytes; no condition: the row, and its tied card. -/
import Derived.Test.YtkkjdbfalpjhfaaGreatDoorV49b
set_option maxHeartbeats 20000000
set_option maxRecDepth 100000
namespace Go.Proofs.YtkkjdbfalpjhfaaGreatDoor
open Go Go.ChangeShapes Go.WideShapes Go.ChangeAt Go.RowKit Go.Deep Go.Joins Go.BigFrame _root_.Go.Proofs.Tryz
theorem PtsB_:Tryz.pinned.checked.prog.mainIs=some (Rows.fnPoolTextsCard.stood.harness.1,Rows.fnPoolTextsCard.stood.harness.2.toList):=by kernel_rfl
theorem PtsC_:false=Rows.fnPoolTextsRow.goesBy Tryz.pinned.checked.prog:=by kernel_rfl
theorem holdsFnPoolTexts:Rows.FnPoolTextsSaid:=
 OpenClaim.holds_of_wide 3 f3 rfl rfl rfl rfl rfl rfl rfl ⟨rfl,rfl,rfl,rfl,rfl⟩ rfl rfl rfl rfl rfl (by kernel_rfl) func3 PtsA_
  (of_decide_eq_true (by kernel_rfl)) (by unfold Func.isWrapper;first | (rw[if_pos (by decide +kernel)];kernel_rfl) | (rw[if_neg (by decide +kernel)];exact⟨rfl,rfl⟩))
  (fun os started H enc _=>liftedFnPoolTexts os started H enc)
theorem cardFnPoolTexts:Rows.FnPoolTextsCardSaid:=
 Claim7.holds_tied_plain_at .later [] [.data,.data,.data,.data,.sentinel,.sentinel,.sentinel,.pinned] true Rows.fnPoolTextsCard.stood.harness true
  holdsFnPoolTexts (fun _ h=>by cases h) (by kernel_rfl) (fun _ h=>by cases h) fnPoolTexts_row_tie rfl ⟨rfl,rfl⟩ PtsB_ rfl
  (fun f fn hf ha=>by
   obtain rfl:f=3:=Zi ((show prog.funcNamed "loop.example/g00336/laws.FnPoolTexts"=some 3 by kernel_rfl).symm.trans hf) |>.symm
   obtain rfl:fn=f3:=(Zi (func3.symm.trans ha)).symm
   exact⟨by kernel_rfl,fun j t ht=>by
    rw[params3] at ht
    obtain rfl:t=22:=by
     rcases j with _ | j
     ·simpa using ht.symm
     ·simp at ht
    exact (show prog.wantsStandIn 22=false by kernel_rfl)⟩)
  PtsC_
end Go.Proofs.YtkkjdbfalpjhfaaGreatDoor
