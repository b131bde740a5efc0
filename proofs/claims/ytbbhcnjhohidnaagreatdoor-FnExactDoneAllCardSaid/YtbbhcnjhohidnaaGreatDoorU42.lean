/- All of a list of ops, by both: the row, and its tied card. -/
import Derived.Test.YtbbhcnjhohidnaaGreatDoorU41
set_option maxHeartbeats 20000000
set_option maxRecDepth 100000
namespace Go.Proofs.YtbbhcnjhohidnaaGreatDoor
open Go Go.ChangeShapes Go.WideShapes Go.ChangeAt Go.RowKit Go.Deep Go.Joins Go.BigFrame _root_.Go.Proofs.Tryz
theorem EllB_:Tryz.pinned.checked.prog.mainIs=some (Rows.fnExactDoneAllCard.stood.harness.1,Rows.fnExactDoneAllCard.stood.harness.2.toList):=by kernel_rfl
theorem EllC_:false=Rows.fnExactDoneAllRow.goesBy Tryz.pinned.checked.prog:=by kernel_rfl
theorem holdsDoneAll:Rows.FnExactDoneAllSaid:=
 OpenClaim.holds_of_wide 4 f4 rfl rfl rfl rfl rfl rfl rfl ⟨rfl,rfl,rfl,rfl,rfl⟩ rfl rfl rfl rfl rfl (by kernel_rfl) func4 EllA_
  (of_decide_eq_true (by kernel_rfl)) (by unfold Func.isWrapper;first | (rw [if_pos (by decide +kernel)];kernel_rfl) | (rw [if_neg (by decide +kernel)];exact ⟨rfl,rfl⟩))
  (fun os started H enc _=>DS os started H enc)
theorem cardDoneAll:Rows.FnExactDoneAllCardSaid:=
 Claim7.holds_tied_plain_at .later [] [.handle,.sentinel,.sentinel,.sentinel,.sentinel,.sentinel,.sentinel,.sentinel,.sentinel,.sentinel,.sentinel] true Rows.fnExactDoneAllCard.stood.harness true
  holdsDoneAll (fun _ h=>by cases h) (by kernel_rfl) (fun _ h=>by cases h) fnExactDoneAll_row_tie rfl ⟨rfl,rfl⟩ EllB_ rfl
  (fun f fn hf ha=>by
   obtain rfl:f=4:=Zi ((show prog.funcNamed "loop.example/g00336/laws.FnExactDoneAll"=some 4 by kernel_rfl).symm.trans hf) |>.symm
   obtain rfl:fn=f4:=(Zi (func4.symm.trans ha)).symm
   exact ⟨by kernel_rfl,fun j t ht=>by
    rw [params4] at ht
    have h3:t=26∨t=44:=by
     rcases j with _ | _ | j
     ·exact .inl (by simpa using ht.symm)
     ·exact .inr (by simpa using ht.symm)
     ·simp at ht
    rcases h3 with rfl | rfl
    ·exact (show prog.wantsStandIn 26=false by kernel_rfl)
    ·exact (show prog.wantsStandIn 44=false by kernel_rfl)⟩)
  EllC_
end Go.Proofs.YtbbhcnjhohidnaaGreatDoor
