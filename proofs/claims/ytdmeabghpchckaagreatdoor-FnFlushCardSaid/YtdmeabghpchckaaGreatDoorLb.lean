/- At every code: what is flushed changes nothing of what is read, nothing is late then, there are just the extents that somebody names, and flushed again nothing changes; no condition: the row, and its tied card. -/
import Derived.Test.YtdmeabghpchckaaGreatDoorV47
import Derived.Test.YtdmeabghpchckaaGreatDoorLa
set_option maxHeartbeats 20000000
set_option maxRecDepth 100000
namespace Go.Proofs.YtdmeabghpchckaaGreatDoor
open Go Go.ChangeShapes Go.WideShapes Go.ChangeAt Go.RowKit Go.Deep Go.Joins Go.BigFrame _root_.Go.Proofs.Tryz
theorem liftedFnFlush (os:Os)(started:os.Started)(H:Type)(enc:TypeId×Value->H) :
  ReturnsInHanded {} checked os 3 .any (fun w args=>(Rows.fnFlushSpec.pre enc prog f3 [] false w args∧laidMetH prog Rows.fnFlushRow.laid w)∧sizedMet enc prog f3 (OpenSpec.ofChange Rows.fnFlushSpec) false w args)
   (Rows.fnFlushSpec.post enc prog f3 false true false false):=by
 refine returnsInHanded_of_change_and (C:=checked) (X:=fun w _=>laidMetH prog Rows.fnFlushRow.laid w) (fun _ _ _ hh h=>h.of_heap hh) In started (by kernel_rfl) func3
  (ChangeSpec.witness_at (enc:=enc) (C:=checked) (os:=os) (X:=fun w _=>laidMetH prog Rows.fnFlushRow.laid w) false (FG os) #[.slice none 0 0] 8 rfl (by kernel_rfl) (by kernel_rfl) (by kernel_rfl) (by kernel_rfl) (by kernel_rfl) (iB_ os _)) ?_
 intro W base args ds gs before hb hW _ _ hj _
 have hc:∀ (j:Nat) t v,f3.params[j]?=some t->args[j]?=some v->Value.okWide prog W .any base t v:=hb
 have hL:laidMetH prog DN W:=hj
 have hg:=hW
 obtain⟨p,q,hf,hk,rfl,_,_⟩:=hW
 have hA:DataW.TrodAll enc prog W 0 (fun _=>true) true f3.params.toList args.toList ds p:=hf
 rw[params3] at hA hc
 obtain⟨v0,vs0,d0,ds0,p0,q0,ha,rfl,rfl,h0,r0⟩:=trodAll_cons hA
 obtain⟨rfl,rfl,rfl⟩:=trodAll_nil r0
 obtain rfl:args=#[v0]:=by cases args;simp_all
 obtain⟨ep,a_errOp,a_errVolume,a_errFile,a_errBytes,a_errThere,a_errFixed,a_errRoom,a_errParts,a_errAfter,hT⟩:=Il hL
 obtain⟨rfl,rfl⟩:=hk.unique (hT.read enc (Yg _ _) _)
 have hm:11<=W.heap.size:=by
  have:=Yk W _ (show W.cell? ⟨10,0,none⟩=_ from c8_ gR_ hT.errParts.v1)
  exact this
 clear hf hb
 have hn:∀ x∈p0,x.block<W.heap.size:=fun x hx=>by simpa using hg.lt x (by simp[hx])
 obtain⟨a0,len,cap,rfl⟩:=okWide_slice underlying22 (hc 0 22 v0 rfl rfl)
 obtain⟨ho,hl⟩:=HS h0
 unfold maxLen at ho
 refine (walkFl _ ep a0 len cap W hl (by omega) (hT.errs hL) hm).mono fun e W' ⟨he,hB⟩=>?_
 subst he
 have ha:DataW.Trod enc prog W' 0 (fun b=>decide (b<W.heap.size)) true 22 (.slice a0 len cap) d0 p0:=
  Below.trod H7 (by kernel_rfl) (of_decide_eq_true (by kernel_rfl)) h0 hB hn
 exact⟨_,rfl,⟨_,_,_,[],_,_,hg,trodAll_mk1 (shut_bool underlying4 _),trodAll_mk1 ha,hT.read enc hB _,hB.frame _,fun h=>by cases h⟩⟩
theorem Fsha1_:(Rows.fnFlushRow.inPlace==prog.inPlace 3)=true:=by kernel_rfl
theorem Fsha2_:(Rows.fnFlushRow.unfollowed==prog.unfollowed 3)=true:=by kernel_rfl
theorem Fsha3_:(Rows.fnFlushRow.recurses==prog.recurses 3)=true:=by kernel_rfl
theorem Fsha4_:(Rows.fnFlushRow.named==prog.varsNamed 3)=true:=by kernel_rfl
theorem Fsha6_:mapsRowed prog=true:=by kernel_rfl
theorem FshA_:joinedFacts prog 3 f3 Rows.fnFlushSpec Rows.fnFlushRow=true:=by
 unfold joinedFacts;rw[H7,Fsha1_,Fsha2_,Fsha3_,Fsha4_,Fsha6_];kernel_rfl
end Go.Proofs.YtdmeabghpchckaaGreatDoor
