/- At every code: a commitment comes back from its bytes; what is read, written again, has just its bytes; no condition: the row, and its tied card. -/
import Derived.Test.YtkiceokhlceciaaGreatDoorV52b
set_option maxHeartbeats 20000000
set_option maxRecDepth 100000
namespace Go.Proofs.YtkiceokhlceciaaGreatDoor
open Go Go.ChangeShapes Go.WideShapes Go.ChangeAt Go.RowKit Go.Deep Go.Joins Go.BigFrame _root_.Go.Proofs.Tryz
theorem SrsB_:Tryz.pinned.checked.prog.mainIs=some (Rows.fnSupersCard.stood.harness.1,Rows.fnSupersCard.stood.harness.2.toList):=by kernel_rfl
theorem SrsC_:false=Rows.fnSupersRow.goesBy Tryz.pinned.checked.prog:=by kernel_rfl
theorem holdsFnSupers:Rows.FnSupersSaid:=
 OpenClaim.holds_of_wide 3 f3 rfl rfl rfl rfl rfl rfl rfl ⟨rfl,rfl,rfl,rfl,rfl⟩ rfl rfl rfl rfl rfl (by kernel_rfl) func3 SrsA_
  (of_decide_eq_true (by kernel_rfl)) (by unfold Func.isWrapper;first | (rw[if_pos (by decide +kernel)];kernel_rfl) | (rw[if_neg (by decide +kernel)];exact⟨rfl,rfl⟩))
  (fun os started H enc _=>liftedFnSupers os started H enc)
theorem cardFnSupers:Rows.FnSupersCardSaid:=
 Claim7.holds_tied_plain_at .later [] [.data,.data,.data,.data,.sentinel,.sentinel,.sentinel,.pinned] true Rows.fnSupersCard.stood.harness true
  holdsFnSupers (fun _ h=>by cases h) (by kernel_rfl) (fun _ h=>by cases h) fnSupers_row_tie rfl ⟨rfl,rfl⟩ SrsB_ rfl
  (fun f fn hf ha=>by
   obtain rfl:f=3:=Zi ((show prog.funcNamed "loop.example/g00336/laws.FnSupers"=some 3 by kernel_rfl).symm.trans hf) |>.symm
   obtain rfl:fn=f3:=(Zi (func3.symm.trans ha)).symm
   exact⟨by kernel_rfl,fun j t ht=>by
    rw[params3] at ht
    obtain rfl:t=22:=by
     rcases j with _ | j
     ·simpa using ht.symm
     ·simp at ht
    exact (show prog.wantsStandIn 22=false by kernel_rfl)⟩)
  SrsC_
end Go.Proofs.YtkiceokhlceciaaGreatDoor
