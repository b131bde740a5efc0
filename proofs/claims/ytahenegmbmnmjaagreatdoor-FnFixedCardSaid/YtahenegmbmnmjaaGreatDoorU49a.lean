/- At every code: a volume that is fixed has what it has, whatever is done, until it is dropped; no condition: the row, and its tied card. -/
import Derived.Test.YtahenegmbmnmjaaGreatDoorU49
set_option maxHeartbeats 20000000
set_option maxRecDepth 100000
namespace Go.Proofs.YtahenegmbmnmjaaGreatDoor
open Go Go.ChangeShapes Go.WideShapes Go.ChangeAt Go.RowKit Go.Deep Go.Joins Go.BigFrame _root_.Go.Proofs.Tryz
theorem FedB_:Tryz.pinned.checked.prog.mainIs=some (Rows.fnFixedCard.stood.harness.1,Rows.fnFixedCard.stood.harness.2.toList):=by kernel_rfl
theorem FedC_:false=Rows.fnFixedRow.goesBy Tryz.pinned.checked.prog:=by kernel_rfl
theorem holdsFnFixed:Rows.FnFixedSaid:=
 OpenClaim.holds_of_wide 10 f10 rfl rfl rfl rfl rfl rfl rfl ⟨rfl,rfl,rfl,rfl,rfl⟩ rfl rfl rfl rfl rfl (by kernel_rfl) func10 FedA_
  (of_decide_eq_true (by kernel_rfl)) (by unfold Func.isWrapper;first | (rw[if_pos (by decide +kernel)];kernel_rfl) | (rw[if_neg (by decide +kernel)];exact⟨rfl,rfl⟩))
  (fun os started H enc _=>Ey os started H enc)
theorem cardFnFixed:Rows.FnFixedCardSaid:=
 Claim7.holds_tied_plain_at .later [] [.handle,.sentinel,.sentinel,.sentinel,.sentinel,.sentinel,.sentinel,.sentinel,.sentinel,.sentinel,.sentinel] true Rows.fnFixedCard.stood.harness true
  holdsFnFixed (fun _ h=>by cases h) (by kernel_rfl) (fun _ h=>by cases h) fnFixed_row_tie rfl ⟨rfl,rfl⟩ FedB_ rfl
  (fun f fn hf ha=>by
   obtain rfl:f=10:=Zi ((show prog.funcNamed "loop.example/g00336/laws.FnFixed"=some 10 by kernel_rfl).symm.trans hf) |>.symm
   obtain rfl:fn=f10:=(Zi (func10.symm.trans ha)).symm
   exact⟨by kernel_rfl,fun j t ht=>by
    rw[params10] at ht
    obtain rfl:t=56:=by
     rcases j with _ | j
     ·simpa using ht.symm
     ·simp at ht
    exact (show prog.wantsStandIn 56=false by kernel_rfl)⟩)
  FedC_
end Go.Proofs.YtahenegmbmnmjaaGreatDoor
