/- At every code: what is done to one volume changes nothing of any other one; no condition: the row, and its tied card. -/
import Derived.Test.YtahenegmbmnmjaaGreatDoorU47
set_option maxHeartbeats 20000000
set_option maxRecDepth 100000
namespace Go.Proofs.YtahenegmbmnmjaaGreatDoor
open Go Go.ChangeShapes Go.WideShapes Go.ChangeAt Go.RowKit Go.Deep Go.Joins Go.BigFrame _root_.Go.Proofs.Tryz
theorem IedB_:Tryz.pinned.checked.prog.mainIs=some (Rows.fnIsolatedCard.stood.harness.1,Rows.fnIsolatedCard.stood.harness.2.toList):=by kernel_rfl
theorem IedC_:false=Rows.fnIsolatedRow.goesBy Tryz.pinned.checked.prog:=by kernel_rfl
theorem holdsFnIsolated:Rows.FnIsolatedSaid:=
 OpenClaim.holds_of_wide 5 f5 rfl rfl rfl rfl rfl rfl rfl ⟨rfl,rfl,rfl,rfl,rfl⟩ rfl rfl rfl rfl rfl (by kernel_rfl) func5 IedA_
  (of_decide_eq_true (by kernel_rfl)) (by unfold Func.isWrapper;first | (rw[if_pos (by decide +kernel)];kernel_rfl) | (rw[if_neg (by decide +kernel)];exact⟨rfl,rfl⟩))
  (fun os started H enc _=>DE os started H enc)
theorem cardFnIsolated:Rows.FnIsolatedCardSaid:=
 Claim7.holds_tied_plain_at .later [] [.handle,.sentinel,.sentinel,.sentinel,.sentinel,.sentinel,.sentinel,.sentinel,.sentinel,.sentinel,.sentinel] true Rows.fnIsolatedCard.stood.harness true
  holdsFnIsolated (fun _ h=>by cases h) (by kernel_rfl) (fun _ h=>by cases h) fnIsolated_row_tie rfl ⟨rfl,rfl⟩ IedB_ rfl
  (fun f fn hf ha=>by
   obtain rfl:f=5:=Zi ((show prog.funcNamed "loop.example/g00336/laws.FnIsolated"=some 5 by kernel_rfl).symm.trans hf) |>.symm
   obtain rfl:fn=f5:=(Zi (func5.symm.trans ha)).symm
   exact⟨by kernel_rfl,fun j t ht=>by
    rw[params5] at ht
    obtain rfl:t=56:=by
     rcases j with _ | j
     ·simpa using ht.symm
     ·simp at ht
    exact (show prog.wantsStandIn 56=false by kernel_rfl)⟩)
  IedC_
end Go.Proofs.YtahenegmbmnmjaaGreatDoor
