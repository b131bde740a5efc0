/- At every code: what is dropped, or unlinked, is not there, and behind a flush its room is free as far as nobody else names it; no condition: the row, and its tied card. -/
import Derived.Test.YtdmeabghpchckaaGreatDoorKb
set_option maxHeartbeats 20000000
set_option maxRecDepth 100000
namespace Go.Proofs.YtdmeabghpchckaaGreatDoor
open Go Go.ChangeShapes Go.WideShapes Go.ChangeAt Go.RowKit Go.Deep Go.Joins Go.BigFrame _root_.Go.Proofs.Tryz
theorem DedB_:Tryz.pinned.checked.prog.mainIs=some (Rows.fnDroppedCard.stood.harness.1,Rows.fnDroppedCard.stood.harness.2.toList):=by kernel_rfl
theorem DedC_:false=Rows.fnDroppedRow.goesBy Tryz.pinned.checked.prog:=by kernel_rfl
theorem holdsFnDropped:Rows.FnDroppedSaid:=
 OpenClaim.holds_of_wide 4 f4 rfl rfl rfl rfl rfl rfl rfl ⟨rfl,rfl,rfl,rfl,rfl⟩ rfl rfl rfl rfl rfl (by kernel_rfl) func4 DedA_
  (of_decide_eq_true (by kernel_rfl)) (by unfold Func.isWrapper;first | (rw[if_pos (by decide +kernel)];kernel_rfl) | (rw[if_neg (by decide +kernel)];exact⟨rfl,rfl⟩))
  (fun os started H enc _=>liftedFnDropped os started H enc)
theorem cardFnDropped:Rows.FnDroppedCardSaid:=
 Claim7.holds_tied_plain_at .later [] [.handle,.sentinel,.sentinel,.sentinel,.sentinel,.sentinel,.sentinel,.sentinel,.sentinel,.sentinel,.sentinel] true Rows.fnDroppedCard.stood.harness true
  holdsFnDropped (fun _ h=>by cases h) (by kernel_rfl) (fun _ h=>by cases h) fnDropped_row_tie rfl ⟨rfl,rfl⟩ DedB_ rfl
  (fun f fn hf ha=>by
   obtain rfl:f=4:=Zi ((show prog.funcNamed "loop.example/g00336/laws.FnDropped"=some 4 by kernel_rfl).symm.trans hf) |>.symm
   obtain rfl:fn=f4:=(Zi (func4.symm.trans ha)).symm
   exact⟨by kernel_rfl,fun j t ht=>by
    rw[params4] at ht
    obtain rfl:t=22:=by
     rcases j with _ | j
     ·simpa using ht.symm
     ·simp at ht
    exact (show prog.wantsStandIn 22=false by kernel_rfl)⟩)
  DedC_
end Go.Proofs.YtdmeabghpchckaaGreatDoor
