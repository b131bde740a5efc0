/- At every code: an op leaves a right pool, and one that is refused leaves it as it was; no condition: the row, and its tied card. -/
import Derived.Test.YtahenegmbmnmjaaGreatDoorT48
set_option maxHeartbeats 20000000
set_option maxRecDepth 100000
namespace Go.Proofs.YtahenegmbmnmjaaGreatDoor
open Go Go.ChangeShapes Go.WideShapes Go.ChangeAt Go.RowKit Go.Deep Go.Joins Go.BigFrame _root_.Go.Proofs.Tryz
theorem OneB_:Tryz.pinned.checked.prog.mainIs=some (Rows.fnOpDoneCard.stood.harness.1,Rows.fnOpDoneCard.stood.harness.2.toList):=by kernel_rfl
theorem OneC_:false=Rows.fnOpDoneRow.goesBy Tryz.pinned.checked.prog:=by kernel_rfl
theorem holdsFnOpDone:Rows.FnOpDoneSaid:=
 OpenClaim.holds_of_wide 13 f13 rfl rfl rfl rfl rfl rfl rfl ⟨rfl,rfl,rfl,rfl,rfl⟩ rfl rfl rfl rfl rfl (by kernel_rfl) func13 OneA_
  (of_decide_eq_true (by kernel_rfl)) (by unfold Func.isWrapper;first | (rw[if_pos (by decide +kernel)];kernel_rfl) | (rw[if_neg (by decide +kernel)];exact⟨rfl,rfl⟩))
  (fun os started H enc _=>liftedFnOpDone os started H enc)
theorem cardFnOpDone:Rows.FnOpDoneCardSaid:=
 Claim7.holds_tied_plain_at .later [] [.handle,.sentinel,.sentinel,.sentinel,.sentinel,.sentinel,.sentinel,.sentinel,.sentinel,.sentinel,.sentinel] true Rows.fnOpDoneCard.stood.harness true
  holdsFnOpDone (fun _ h=>by cases h) (by kernel_rfl) (fun _ h=>by cases h) fnOpDone_row_tie rfl ⟨rfl,rfl⟩ OneB_ rfl
  (fun f fn hf ha=>by
   obtain rfl:f=13:=Zi ((show prog.funcNamed "loop.example/g00336/laws.FnOpDone"=some 13 by kernel_rfl).symm.trans hf) |>.symm
   obtain rfl:fn=f13:=(Zi (func13.symm.trans ha)).symm
   exact⟨by kernel_rfl,fun j t ht=>by
    rw[params13] at ht
    obtain rfl:t=56:=by
     rcases j with _ | j
     ·simpa using ht.symm
     ·simp at ht
    exact (show prog.wantsStandIn 56=false by kernel_rfl)⟩)
  OneC_
end Go.Proofs.YtahenegmbmnmjaaGreatDoor
