/- At every code: what is committed on a disk is right, and the one with the greatest number; no condition: the row, and its tied card. -/
import Derived.Test.YteejlahappbalaaGreatDoorV49b
set_option maxHeartbeats 20000000
set_option maxRecDepth 100000
namespace Go.Proofs.YteejlahappbalaaGreatDoor
open Go Go.ChangeShapes Go.WideShapes Go.ChangeAt Go.RowKit Go.Deep Go.Joins Go.BigFrame _root_.Go.Proofs.Tryz
theorem CedB_:Tryz.pinned.checked.prog.mainIs=some (Rows.fnCommittedCard.stood.harness.1,Rows.fnCommittedCard.stood.harness.2.toList):=by kernel_rfl
theorem CedC_:false=Rows.fnCommittedRow.goesBy Tryz.pinned.checked.prog:=by kernel_rfl
theorem holdsFnCommitted:Rows.FnCommittedSaid:=
 OpenClaim.holds_of_wide 3 f3 rfl rfl rfl rfl rfl rfl rfl ⟨rfl,rfl,rfl,rfl,rfl⟩ rfl rfl rfl rfl rfl (by kernel_rfl) func3 CedA_
  (of_decide_eq_true (by kernel_rfl)) (by unfold Func.isWrapper;first | (rw[if_pos (by decide +kernel)];kernel_rfl) | (rw[if_neg (by decide +kernel)];exact⟨rfl,rfl⟩))
  (fun os started H enc _=>liftedFnCommitted os started H enc)
theorem cardFnCommitted:Rows.FnCommittedCardSaid:=
 Claim7.holds_tied_plain_at .later [] [.data,.data,.data,.data,.sentinel,.sentinel,.sentinel,.pinned] true Rows.fnCommittedCard.stood.harness true
  holdsFnCommitted (fun _ h=>by cases h) (by kernel_rfl) (fun _ h=>by cases h) fnCommitted_row_tie rfl ⟨rfl,rfl⟩ CedB_ rfl
  (fun f fn hf ha=>by
   obtain rfl:f=3:=Zi ((show prog.funcNamed "loop.example/g00336/laws.FnCommitted"=some 3 by kernel_rfl).symm.trans hf) |>.symm
   obtain rfl:fn=f3:=(Zi (func3.symm.trans ha)).symm
   exact⟨by kernel_rfl,fun j t ht=>by
    rw[params3] at ht
    obtain rfl:t=22:=by
     rcases j with _ | j
     ·simpa using ht.symm
     ·simp at ht
    exact (show prog.wantsStandIn 22=false by kernel_rfl)⟩)
  CedC_
end Go.Proofs.YteejlahappbalaaGreatDoor
