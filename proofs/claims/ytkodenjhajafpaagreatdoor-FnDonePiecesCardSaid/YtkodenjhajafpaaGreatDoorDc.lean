/- At every code: ops in two pieces are the same ops; no condition: the row, and its tied card. -/
import Derived.Test.YtkodenjhajafpaaGreatDoorDb
set_option maxHeartbeats 20000000
set_option maxRecDepth 100000
namespace Go.Proofs.YtkodenjhajafpaaGreatDoor
open Go Go.ChangeShapes Go.WideShapes Go.ChangeAt Go.RowKit Go.Deep Go.Joins Go.BigFrame _root_.Go.Proofs.Tryz
theorem DesB_:Tryz.pinned.checked.prog.mainIs=some (Rows.fnDonePiecesCard.stood.harness.1,Rows.fnDonePiecesCard.stood.harness.2.toList):=by kernel_rfl
theorem DesC_:false=Rows.fnDonePiecesRow.goesBy Tryz.pinned.checked.prog:=by kernel_rfl
theorem holdsFnDonePieces:Rows.FnDonePiecesSaid:=
 OpenClaim.holds_of_wide 6 f6 rfl rfl rfl rfl rfl rfl rfl ⟨rfl,rfl,rfl,rfl,rfl⟩ rfl rfl rfl rfl rfl (by kernel_rfl) func6 DesA_
  (of_decide_eq_true (by kernel_rfl)) (by unfold Func.isWrapper;first | (rw[if_pos (by decide +kernel)];kernel_rfl) | (rw[if_neg (by decide +kernel)];exact⟨rfl,rfl⟩))
  (fun os started H enc _=>liftedFnDonePieces os started H enc)
theorem cardFnDonePieces:Rows.FnDonePiecesCardSaid:=
 Claim7.holds_tied_plain_at .later [] [.handle,.sentinel,.sentinel,.sentinel,.sentinel,.sentinel,.sentinel,.sentinel,.sentinel,.sentinel,.sentinel] true Rows.fnDonePiecesCard.stood.harness true
  holdsFnDonePieces (fun _ h=>by cases h) (by kernel_rfl) (fun _ h=>by cases h) fnDonePieces_row_tie rfl ⟨rfl,rfl⟩ DesB_ rfl
  (fun f fn hf ha=>by
   obtain rfl:f=6:=Zi ((show prog.funcNamed "loop.example/g00336/laws.FnDonePieces"=some 6 by kernel_rfl).symm.trans hf) |>.symm
   obtain rfl:fn=f6:=(Zi (func6.symm.trans ha)).symm
   exact⟨by kernel_rfl,fun j t ht=>by
    rw[params6] at ht
    obtain rfl:t=22:=by
     rcases j with _ | j
     ·simpa using ht.symm
     ·simp at ht
    exact (show prog.wantsStandIn 22=false by kernel_rfl)⟩)
  DesC_
end Go.Proofs.YtkodenjhajafpaaGreatDoor
