/- Ground. -/
import Derived.Test.YtahenegmbmnmjaaGreatDoorU39
import Derived.Test.YtahenegmbmnmjaaGreatDoorU48
set_option maxHeartbeats 20000000
set_option maxRecDepth 100000
namespace Go.Proofs.YtahenegmbmnmjaaGreatDoor
open Go Go.ChangeShapes Go.WideShapes Go.ChangeAt Go.RowKit Go.Deep Go.Joins Go.BigFrame _root_.Go.Proofs.Tryz
theorem Ey (os:Os)(started:os.Started)(H:Type)(enc:TypeId×Value->H) :
  ReturnsInHanded {} checked os 10 .any (fun w args=>(Rows.fnFixedSpec.pre enc prog f10 [] false w args∧laidMetH prog Rows.fnFixedRow.laid w)∧sizedMet enc prog f10 (OpenSpec.ofChange Rows.fnFixedSpec) false w args)
   (Rows.fnFixedSpec.post enc prog f10 false true false false):=by
 refine returnsInHanded_of_change_and (C:=checked) (X:=fun w _=>laidMetH prog Rows.fnFixedRow.laid w) (fun _ _ _ hh h=>h.of_heap hh) Ic started (by kernel_rfl) func10
  (ChangeSpec.witness_at (enc:=enc) (C:=checked) (os:=os) (X:=fun w _=>laidMetH prog Rows.fnFixedRow.laid w) false (Dh os) #[.slice none 0 0] 8 rfl (by kernel_rfl) (by kernel_rfl) (by kernel_rfl) (by kernel_rfl) (by kernel_rfl) (iB_ os _)) ?_
 intro W base args ds gs before hb hW _ _ hj _
 have hc:∀ (j:Nat) t v,f10.params[j]?=some t->args[j]?=some v->Value.okWide prog W .any base t v:=hb
 have hL:laidMetH prog CS W:=hj
 have hg:=hW
 obtain⟨p,q,hf,hk,rfl,_,_⟩:=hW
 have hA:DataW.TrodAll enc prog W 0 (fun _=>true) true f10.params.toList args.toList ds p:=hf
 rw[params10] at hA hc
 obtain⟨v0,vs0,d0,ds0,p0,q0,ha,rfl,rfl,h0,r0⟩:=trodAll_cons hA
 obtain⟨rfl,rfl,rfl⟩:=trodAll_nil r0
 obtain rfl:args=#[v0]:=by cases args;simp_all
 obtain⟨ep,a_errOp,a_errVolume,a_errFile,a_errBytes,a_errThere,a_errFixed,a_errRoom,a_errParts,a_errAfter,hT⟩:=G7 hL
 obtain⟨rfl,rfl⟩:=hk.unique (hT.read enc (Yg _ _) _)
 have hm:11<=W.heap.size:=by
  have:=Yk W _ (show W.cell? ⟨10,0,none⟩=_ from c8_ gR_ hT.errParts.v1)
  exact this
 clear hf hb
 have hn:∀ x∈p0,x.block<W.heap.size:=fun x hx=>by simpa using hg.lt x (by simp[hx])
 obtain⟨a0,len,cap,rfl⟩:=okWide_slice underlying56 (hc 0 56 v0 rfl rfl)
 obtain⟨ho,hl⟩:=EF h0
 unfold maxLen at ho
 refine (walkFix _ ep a0 len cap W hl (by omega) (hT.errs hL) hm).mono fun e W' ⟨he,hB⟩=>?_
 subst he
 have ha:DataW.Trod enc prog W' 0 (fun b=>decide (b<W.heap.size)) true 56 (.slice a0 len cap) d0 p0:=
  Below.trod Fl (by kernel_rfl) (of_decide_eq_true (by kernel_rfl)) h0 hB hn
 exact⟨_,rfl,⟨_,_,_,[],_,_,hg,trodAll_mk1 (shut_bool underlying4 _),trodAll_mk1 ha,hT.read enc hB _,hB.frame _,fun h=>by cases h⟩⟩
theorem Feda1_:(Rows.fnFixedRow.inPlace==prog.inPlace 10)=true:=by kernel_rfl
theorem Feda2_:(Rows.fnFixedRow.unfollowed==prog.unfollowed 10)=true:=by kernel_rfl
theorem Feda3_:(Rows.fnFixedRow.recurses==prog.recurses 10)=true:=by kernel_rfl
theorem Feda4_:(Rows.fnFixedRow.named==prog.varsNamed 10)=true:=by kernel_rfl
theorem Feda6_:mapsRowed prog=true:=by kernel_rfl
theorem FedA_:joinedFacts prog 10 f10 Rows.fnFixedSpec Rows.fnFixedRow=true:=by
 unfold joinedFacts;rw[Fl,Feda1_,Feda2_,Feda3_,Feda4_,Feda6_];kernel_rfl
end Go.Proofs.YtahenegmbmnmjaaGreatDoor
