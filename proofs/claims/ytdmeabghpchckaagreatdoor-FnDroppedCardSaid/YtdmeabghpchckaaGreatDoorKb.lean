/- At every code: what is dropped, or unlinked, is not there, and behind a flush its room is free as far as nobody else names it; no condition: the row, and its tied card. -/
import Derived.Test.YtdmeabghpchckaaGreatDoorU47
import Derived.Test.YtdmeabghpchckaaGreatDoorKa
set_option maxHeartbeats 20000000
set_option maxRecDepth 100000
namespace Go.Proofs.YtdmeabghpchckaaGreatDoor
open Go Go.ChangeShapes Go.WideShapes Go.ChangeAt Go.RowKit Go.Deep Go.Joins Go.BigFrame _root_.Go.Proofs.Tryz
theorem liftedFnDropped (os:Os)(started:os.Started)(H:Type)(enc:TypeId×Value->H) :
  ReturnsInHanded {} checked os 4 .any (fun w args=>(Rows.fnDroppedSpec.pre enc prog f4 [] false w args∧laidMetH prog Rows.fnDroppedRow.laid w)∧sizedMet enc prog f4 (OpenSpec.ofChange Rows.fnDroppedSpec) false w args)
   (Rows.fnDroppedSpec.post enc prog f4 false true false false):=by
 refine returnsInHanded_of_change_and (C:=checked) (X:=fun w _=>laidMetH prog Rows.fnDroppedRow.laid w) (fun _ _ _ hh h=>h.of_heap hh) In started (by kernel_rfl) func4
  (ChangeSpec.witness_at (enc:=enc) (C:=checked) (os:=os) (X:=fun w _=>laidMetH prog Rows.fnDroppedRow.laid w) false (FG os) #[.slice none 0 0] 8 rfl (by kernel_rfl) (by kernel_rfl) (by kernel_rfl) (by kernel_rfl) (by kernel_rfl) (iB_ os _)) ?_
 intro W base args ds gs before hb hW _ _ hj _
 have hc:∀ (j:Nat) t v,f4.params[j]?=some t->args[j]?=some v->Value.okWide prog W .any base t v:=hb
 have hL:laidMetH prog DN W:=hj
 have hg:=hW
 obtain⟨p,q,hf,hk,rfl,_,_⟩:=hW
 have hA:DataW.TrodAll enc prog W 0 (fun _=>true) true f4.params.toList args.toList ds p:=hf
 rw[params4] at hA hc
 obtain⟨v0,vs0,d0,ds0,p0,q0,ha,rfl,rfl,h0,r0⟩:=trodAll_cons hA
 obtain⟨rfl,rfl,rfl⟩:=trodAll_nil r0
 obtain rfl:args=#[v0]:=by cases args;simp_all
 obtain⟨ep,a_errOp,a_errVolume,a_errFile,a_errBytes,a_errThere,a_errFixed,a_errRoom,a_errParts,a_errAfter,hT⟩:=Il hL
 obtain⟨rfl,rfl⟩:=hk.unique (hT.read enc (Yg _ _) _)
 have hm:11<=W.heap.size:=by
  have:=Yk W _ (show W.cell? ⟨10,0,none⟩=_ from c8_ gR_ hT.errParts.v1)
  exact this
 clear hf hb
 have hn:∀ x∈p0,x.block<W.heap.size:=fun x hx=>by simpa using hg.lt x (by simp[hx])
 obtain⟨a0,len,cap,rfl⟩:=okWide_slice underlying22 (hc 0 22 v0 rfl rfl)
 obtain⟨ho,hl⟩:=HS h0
 unfold maxLen at ho
 refine (walkDr _ ep a0 len cap W hl (by omega) (hT.errs hL) hm).mono fun e W' ⟨he,hB⟩=>?_
 subst he
 have ha:DataW.Trod enc prog W' 0 (fun b=>decide (b<W.heap.size)) true 22 (.slice a0 len cap) d0 p0:=
  Below.trod H7 (by kernel_rfl) (of_decide_eq_true (by kernel_rfl)) h0 hB hn
 exact⟨_,rfl,⟨_,_,_,[],_,_,hg,trodAll_mk1 (shut_bool underlying4 _),trodAll_mk1 ha,hT.read enc hB _,hB.frame _,fun h=>by cases h⟩⟩
theorem Deda1_:(Rows.fnDroppedRow.inPlace==prog.inPlace 4)=true:=by kernel_rfl
theorem Deda2_:(Rows.fnDroppedRow.unfollowed==prog.unfollowed 4)=true:=by kernel_rfl
theorem Deda3_:(Rows.fnDroppedRow.recurses==prog.recurses 4)=true:=by kernel_rfl
theorem Deda4_:(Rows.fnDroppedRow.named==prog.varsNamed 4)=true:=by kernel_rfl
theorem Deda6_:mapsRowed prog=true:=by kernel_rfl
theorem DedA_:joinedFacts prog 4 f4 Rows.fnDroppedSpec Rows.fnDroppedRow=true:=by
 unfold joinedFacts;rw[H7,Deda1_,Deda2_,Deda3_,Deda4_,Deda6_];kernel_rfl
end Go.Proofs.YtdmeabghpchckaaGreatDoor
