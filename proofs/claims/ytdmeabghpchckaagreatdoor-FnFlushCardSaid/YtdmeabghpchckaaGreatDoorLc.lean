/- At every code: what is flushed changes nothing of what is read, nothing is late then, there are just the extents that somebody names, and flushed again nothing changes; no condition: the row, and its tied card. -/
import Derived.Test.YtdmeabghpchckaaGreatDoorLb
set_option maxHeartbeats 20000000
set_option maxRecDepth 100000
namespace Go.Proofs.YtdmeabghpchckaaGreatDoor
open Go Go.ChangeShapes Go.WideShapes Go.ChangeAt Go.RowKit Go.Deep Go.Joins Go.BigFrame _root_.Go.Proofs.Tryz
theorem FshB_:Tryz.pinned.checked.prog.mainIs=some (Rows.fnFlushCard.stood.harness.1,Rows.fnFlushCard.stood.harness.2.toList):=by kernel_rfl
theorem FshC_:false=Rows.fnFlushRow.goesBy Tryz.pinned.checked.prog:=by kernel_rfl
theorem holdsFnFlush:Rows.FnFlushSaid:=
 OpenClaim.holds_of_wide 3 f3 rfl rfl rfl rfl rfl rfl rfl ⟨rfl,rfl,rfl,rfl,rfl⟩ rfl rfl rfl rfl rfl (by kernel_rfl) func3 FshA_
  (of_decide_eq_true (by kernel_rfl)) (by unfold Func.isWrapper;first | (rw[if_pos (by decide +kernel)];kernel_rfl) | (rw[if_neg (by decide +kernel)];exact⟨rfl,rfl⟩))
  (fun os started H enc _=>liftedFnFlush os started H enc)
theorem cardFnFlush:Rows.FnFlushCardSaid:=
 Claim7.holds_tied_plain_at .later [] [.handle,.sentinel,.sentinel,.sentinel,.sentinel,.sentinel,.sentinel,.sentinel,.sentinel,.sentinel,.sentinel] true Rows.fnFlushCard.stood.harness true
  holdsFnFlush (fun _ h=>by cases h) (by kernel_rfl) (fun _ h=>by cases h) fnFlush_row_tie rfl ⟨rfl,rfl⟩ FshB_ rfl
  (fun f fn hf ha=>by
   obtain rfl:f=3:=Zi ((show prog.funcNamed "loop.example/g00336/laws.FnFlush"=some 3 by kernel_rfl).symm.trans hf) |>.symm
   obtain rfl:fn=f3:=(Zi (func3.symm.trans ha)).symm
   exact⟨by kernel_rfl,fun j t ht=>by
    rw[params3] at ht
    obtain rfl:t=22:=by
     rcases j with _ | j
     ·simpa using ht.symm
     ·simp at ht
    exact (show prog.wantsStandIn 22=false by kernel_rfl)⟩)
  FshC_
end Go.Proofs.YtdmeabghpchckaaGreatDoor
