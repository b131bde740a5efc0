/- At every store the program's StoreOk answers as its model does: the tied card. -/
import Derived.Test.YtigldeccfpkdmaaGreatDoorCStoreOkx48
import Derived.Test.YtigldeccfpkdmaaGreatDoorCards
import Derived.Test.YtigldeccfpkdmaaGreatDoorTie
import Derived.SevenTiedAt
namespace Go.Proofs.YtigldeccfpkdmaaGreatDoor
open Go.ChangeShapes Go.WideShapes Go.ChangeAt Go.RowKit Go.Deep Go.Joins
set_option maxHeartbeats 20000000
set_option maxRecDepth 100000
theorem cardStoreOk:Rows.FnExactStoreOkCardSaid:=
 Claim7.holds_tied_plain_at .later [] [.data,.data,.data,.data,.sentinel,.sentinel,.sentinel,.pinned] true Rows.fnExactStoreOkCard.stood.harness true
  holdsStoreOk (fun _ h=>by cases h) (by kernel_rfl) (fun _ h=>by cases h) fnExactStoreOk_row_tie rfl ⟨rfl,rfl⟩ (by kernel_rfl) rfl
  (fun f fn hf hfn=>by
   obtain rfl:f=8:=Option.some.inj ((show Tryz.prog.funcNamed "loop.example/g00336/laws.FnExactStoreOk"=some 8 by kernel_rfl).symm.trans hf) |>.symm
   obtain rfl:fn=Tryz.f8:=(Option.some.inj (Tryz.func8.symm.trans hfn)).symm
   exact ⟨by kernel_rfl,fun j t ht=>by
    rw [Tryz.params8] at ht
    have h3:t=65:=by
     rcases j with _ | j
     ·simpa using ht.symm
     ·simp at ht
    subst h3
    exact (show Tryz.prog.wantsStandIn 65=false by kernel_rfl)⟩)
  (by kernel_rfl)
end Go.Proofs.YtigldeccfpkdmaaGreatDoor
