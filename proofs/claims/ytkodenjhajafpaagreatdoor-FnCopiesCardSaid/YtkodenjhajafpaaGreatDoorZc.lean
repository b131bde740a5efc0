/- At every code: what is copied stands where it was copied to, a snapshot has what its volume has, and neither takes any room; no condition: the row, and its tied card. -/
import Derived.Test.YtkodenjhajafpaaGreatDoorZb
set_option maxHeartbeats 20000000
set_option maxRecDepth 100000
namespace Go.Proofs.YtkodenjhajafpaaGreatDoor
open Go Go.ChangeShapes Go.WideShapes Go.ChangeAt Go.RowKit Go.Deep Go.Joins Go.BigFrame _root_.Go.Proofs.Tryz
theorem CesB_:Tryz.pinned.checked.prog.mainIs=some (Rows.fnCopiesCard.stood.harness.1,Rows.fnCopiesCard.stood.harness.2.toList):=by kernel_rfl
theorem CesC_:false=Rows.fnCopiesRow.goesBy Tryz.pinned.checked.prog:=by kernel_rfl
theorem holdsFnCopies:Rows.FnCopiesSaid:=
 OpenClaim.holds_of_wide 5 f5 rfl rfl rfl rfl rfl rfl rfl ⟨rfl,rfl,rfl,rfl,rfl⟩ rfl rfl rfl rfl rfl (by kernel_rfl) func5 CesA_
  (of_decide_eq_true (by kernel_rfl)) (by unfold Func.isWrapper;first | (rw[if_pos (by decide +kernel)];kernel_rfl) | (rw[if_neg (by decide +kernel)];exact⟨rfl,rfl⟩))
  (fun os started H enc _=>liftedFnCopies os started H enc)
theorem cardFnCopies:Rows.FnCopiesCardSaid:=
 Claim7.holds_tied_plain_at .later [] [.handle,.sentinel,.sentinel,.sentinel,.sentinel,.sentinel,.sentinel,.sentinel,.sentinel,.sentinel,.sentinel] true Rows.fnCopiesCard.stood.harness true
  holdsFnCopies (fun _ h=>by cases h) (by kernel_rfl) (fun _ h=>by cases h) fnCopies_row_tie rfl ⟨rfl,rfl⟩ CesB_ rfl
  (fun f fn hf ha=>by
   obtain rfl:f=5:=Zi ((show prog.funcNamed "loop.example/g00336/laws.FnCopies"=some 5 by kernel_rfl).symm.trans hf) |>.symm
   obtain rfl:fn=f5:=(Zi (func5.symm.trans ha)).symm
   exact⟨by kernel_rfl,fun j t ht=>by
    rw[params5] at ht
    obtain rfl:t=22:=by
     rcases j with _ | j
     ·simpa using ht.symm
     ·simp at ht
    exact (show prog.wantsStandIn 22=false by kernel_rfl)⟩)
  CesC_
end Go.Proofs.YtkodenjhajafpaaGreatDoor
