/- All of a list of ops, by both: the row, and its tied card. -/
import Derived.Test.YtbbhcnjhohidnaaGreatDoorU40
set_option maxHeartbeats 20000000
set_option maxRecDepth 100000
namespace Go.Proofs.YtbbhcnjhohidnaaGreatDoor
open Go Go.ChangeShapes Go.WideShapes Go.ChangeAt Go.RowKit Go.Deep Go.Joins Go.BigFrame _root_.Go.Proofs.Tryz
theorem DS (os:Os) (started:os.Started) (H:Type) (enc:TypeId×Value->H) :
  ReturnsInHanded {} checked os 4 .any (fun w args=>(Rows.fnExactDoneAllSpec.pre enc prog f4 [] false w args∧laidMetH prog Rows.fnExactDoneAllRow.laid w)∧sizedMet enc prog f4 (OpenSpec.ofChange Rows.fnExactDoneAllSpec) false w args)
   (Rows.fnExactDoneAllSpec.post enc prog f4 false true false false):=by
 refine returnsInHanded_of_change_and (C:=checked) (X:=fun w _=>laidMetH prog Rows.fnExactDoneAllRow.laid w) (fun _ _ _ hh h=>h.of_heap hh) Hu started (by kernel_rfl) func4
  (ChangeSpec.witness_at (enc:=enc) (C:=checked) (os:=os) (X:=fun w _=>laidMetH prog Rows.fnExactDoneAllRow.laid w) false (DH os) #[.agg #[.int .i64 0,.int .i64 0,.slice none 0 0,.slice none 0 0,.slice none 0 0,.slice none 0 0],.slice none 0 0] 8 rfl (by kernel_rfl) (by kernel_rfl) (by kernel_rfl) (by kernel_rfl) (by kernel_rfl) (iB_ os _)) ?_
 intro W base args ds gs before hc hW _ _ hq _
 have hg:∀ (j:Nat) t v,f4.params[j]?=some t->args[j]?=some v->Value.okWide prog W .any base t v:=hc
 have hL:laidMetH prog CU W:=hq
 have hj:=hW
 obtain ⟨p,q,ho,hr,rfl,_,_⟩:=hW
 have hA:DataW.TrodAll enc prog W 0 (fun _=>true) true f4.params.toList args.toList ds p:=ho
 rw [params4] at hA hg
 obtain ⟨v0,vs0,d0,ds0,p0,q0,ha,rfl,rfl,h0,r0⟩:=trodAll_cons hA
 obtain ⟨v1,vs1,d1,ds1,p1,q1,rfl,rfl,rfl,h1,r1⟩:=trodAll_cons r0
 obtain ⟨rfl,rfl,rfl⟩:=trodAll_nil r1
 obtain rfl:args=#[v0,v1]:=by cases args;simp_all
 obtain ⟨ep,a_errOp,a_errVolume,a_errFile,a_errBytes,a_errThere,a_errFixed,a_errRoom,a_errParts,a_errAfter,hT⟩:=GM hL
 obtain ⟨rfl,rfl⟩:=hr.unique (hT.read enc (Yg _ _) _)
 have hs:11<=W.heap.size:=by
  have:=Yk W _ (show W.cell? ⟨10,0,none⟩=_ from c8_ gR_ hT.errParts.v1)
  exact this
 clear ho hc
 have hp:=h1
 obtain ⟨aa,n,cap,rfl⟩:=FQ (hg 1 44 v1 rfl rfl)
 obtain ⟨hm,l,hl,hn⟩:=Fl h1
 have ht:∀ x∈p0,x.block<W.heap.size:=fun x hx=>by simpa using hj.lt x (by simp [hx])
 have hk:∀ x∈p1,x.block<W.heap.size:=fun x hx=>by simpa using hj.lt x (by simp [hx])
 obtain ⟨q,hP,hb⟩:=nH_ (hg 0 26 v0 rfl rfl) h0
 refine (Ez _ ep v0 q aa n cap l W hP hb hl hn (by unfold maxLen at hm;omega) (hT.errs hL) hs).mono fun e W' ⟨he,hB⟩=>?_
 subst he
 have ha:DataW.Trod enc prog W' 0 (fun b=>decide (b<W.heap.size)) true 26 v0 d0 p0:=
  Below.trod Eu (by kernel_rfl) (of_decide_eq_true (by kernel_rfl)) h0 hB ht
 have hf:DataW.Trod enc prog W' 0 (fun b=>decide (b<W.heap.size)) true 44 (.slice aa n cap) d1 p1:=
  Below.trod Eu (by kernel_rfl) (of_decide_eq_true (by kernel_rfl)) hp hB hk
 exact ⟨_,rfl,⟨_,_,_,[],_,_,hj,trodAll_mk1 (shut_bool underlying4 _),trodAll_cons_mk ha (trodAll_mk1 hf),hT.read enc hB _,hB.frame _,fun h=>by cases h⟩⟩
theorem Ella1_:(Rows.fnExactDoneAllRow.inPlace==prog.inPlace 4)=true:=by kernel_rfl
theorem Ella2_:(Rows.fnExactDoneAllRow.unfollowed==prog.unfollowed 4)=true:=by kernel_rfl
theorem Ella3_:(Rows.fnExactDoneAllRow.recurses==prog.recurses 4)=true:=by kernel_rfl
theorem Ella4_:(Rows.fnExactDoneAllRow.named==prog.varsNamed 4)=true:=by kernel_rfl
theorem Ella6_:mapsRowed prog=true:=by kernel_rfl
theorem EllA_:joinedFacts prog 4 f4 Rows.fnExactDoneAllSpec Rows.fnExactDoneAllRow=true:=by
 unfold joinedFacts;rw[Eu,Ella1_,Ella2_,Ella3_,Ella4_,Ella6_];kernel_rfl
end Go.Proofs.YtbbhcnjhohidnaaGreatDoor
