/- At every code: what is written is read there, behind zeros where there was nothing, with all else of the file, and all other files, as they were; no condition: the row, and its tied card. -/
import Derived.Test.YtkodenjhajafpaaGreatDoorYb
set_option maxHeartbeats 20000000
set_option maxRecDepth 100000
namespace Go.Proofs.YtkodenjhajafpaaGreatDoor
open Go Go.ChangeShapes Go.WideShapes Go.ChangeAt Go.RowKit Go.Deep Go.Joins Go.BigFrame _root_.Go.Proofs.Tryz
theorem WesB_:Tryz.pinned.checked.prog.mainIs=some (Rows.fnWritesCard.stood.harness.1,Rows.fnWritesCard.stood.harness.2.toList):=by kernel_rfl
theorem WesC_:false=Rows.fnWritesRow.goesBy Tryz.pinned.checked.prog:=by kernel_rfl
theorem holdsFnWrites:Rows.FnWritesSaid:=
 OpenClaim.holds_of_wide 3 f3 rfl rfl rfl rfl rfl rfl rfl ⟨rfl,rfl,rfl,rfl,rfl⟩ rfl rfl rfl rfl rfl (by kernel_rfl) func3 WesA_
  (of_decide_eq_true (by kernel_rfl)) (by unfold Func.isWrapper;first | (rw[if_pos (by decide +kernel)];kernel_rfl) | (rw[if_neg (by decide +kernel)];exact⟨rfl,rfl⟩))
  (fun os started H enc _=>liftedFnWrites os started H enc)
theorem cardFnWrites:Rows.FnWritesCardSaid:=
 Claim7.holds_tied_plain_at .later [] [.handle,.sentinel,.sentinel,.sentinel,.sentinel,.sentinel,.sentinel,.sentinel,.sentinel,.sentinel,.sentinel] true Rows.fnWritesCard.stood.harness true
  holdsFnWrites (fun _ h=>by cases h) (by kernel_rfl) (fun _ h=>by cases h) fnWrites_row_tie rfl ⟨rfl,rfl⟩ WesB_ rfl
  (fun f fn hf ha=>by
   obtain rfl:f=3:=Zi ((show prog.funcNamed "loop.example/g00336/laws.FnWrites"=some 3 by kernel_rfl).symm.trans hf) |>.symm
   obtain rfl:fn=f3:=(Zi (func3.symm.trans ha)).symm
   exact⟨by kernel_rfl,fun j t ht=>by
    rw[params3] at ht
    obtain rfl:t=22:=by
     rcases j with _ | j
     ·simpa using ht.symm
     ·simp at ht
    exact (show prog.wantsStandIn 22=false by kernel_rfl)⟩)
  WesC_
end Go.Proofs.YtkodenjhajafpaaGreatDoor
