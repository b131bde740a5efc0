/- At every pool and op the program's Done answers as its model does, writes nothing into its arguments and owns what it answers: the row, and its tied card. -/
import Derived.Test.YtbbhcnjhohidnaaGreatDoorV37
set_option maxHeartbeats 20000000
set_option maxRecDepth 100000
namespace Go.Proofs.YtbbhcnjhohidnaaGreatDoor
open Go Go.ChangeShapes Go.WideShapes Go.ChangeAt Go.RowKit Go.Deep Go.Joins Go.BigFrame _root_.Go.Proofs.Tryz
theorem liftedDone (os:Os) (started:os.Started) (H:Type) (enc:TypeId×Value->H) :
  ReturnsInHanded {} checked os 3 .any (fun w args=>(Rows.fnExactDoneSpec.pre enc prog f3 [] false w args∧laidMetH prog Rows.fnExactDoneRow.laid w)∧sizedMet enc prog f3 (OpenSpec.ofChange Rows.fnExactDoneSpec) false w args)
   (Rows.fnExactDoneSpec.post enc prog f3 false true false false):=by
 refine returnsInHanded_of_change_and (C:=checked) (X:=fun w _=>laidMetH prog Rows.fnExactDoneRow.laid w) (fun _ _ _ hh h=>h.of_heap hh) ownL started (by kernel_rfl) func3
  (ChangeSpec.witness_at (enc:=enc) (C:=checked) (os:=os) (X:=fun w _=>laidMetH prog Rows.fnExactDoneRow.laid w) false (laidWorldL os) #[.agg #[.int .i64 0,.int .i64 0,.slice none 0 0,.slice none 0 0,.slice none 0 0,.slice none 0 0],.agg #[.int .i64 0,.string .empty,.string .empty,.string .empty,.string .empty,.int .i64 0,.int .i64 0,.int .i64 0,.string .empty]] 8 rfl (by kernel_rfl) (by kernel_rfl) (by kernel_rfl) (by kernel_rfl) (by kernel_rfl) (iB_ os _)) ?_
 intro W base args ds gs before ha hW _ _ hn _
 have hf:∀ (j:Nat) t v,f3.params[j]?=some t->args[j]?=some v->Value.okWide prog W .any base t v:=ha
 have hL:laidMetH prog laidErr W:=hn
 have hj:=hW
 obtain ⟨p,q,hl,hq,rfl,_,_⟩:=hW
 have hA:DataW.TrodAll enc prog W 0 (fun _=>true) true f3.params.toList args.toList ds p:=hl
 rw [params3] at hA hf
 obtain ⟨v0,vs0,d0,ds0,p0,q0,hc,rfl,rfl,h0,r0⟩:=trodAll_cons hA
 obtain ⟨v1,vs1,d1,ds1,p1,q1,rfl,rfl,rfl,h1,r1⟩:=trodAll_cons r0
 obtain ⟨rfl,rfl,rfl⟩:=trodAll_nil r1
 obtain rfl:args=#[v0,v1]:=by cases args;simp_all
 obtain ⟨ep,a_errOp,a_errVolume,a_errFile,a_errBytes,a_errThere,a_errFixed,a_errRoom,a_errParts,a_errAfter,hT⟩:=ten_of hL
 obtain ⟨rfl,rfl⟩:=hq.unique (hT.read enc (Below.refl _ _) _)
 have hr:11<=W.heap.size:=by
  have:=World.block_lt_of_cell? W _ (show W.cell? ⟨10,0,none⟩=_ from c8_ gR_ hT.errParts.v1)
  exact this
 clear hl ha
 have ho:=h1
 obtain ⟨k,vol,file,tt,into,at',fr,ln,data,rfl,hp⟩:=open_op (hf 1 28 v1 rfl rfl) h1
 have hm:∀ x∈p0,x.block<W.heap.size:=fun x hx=>by simpa using hj.lt x (by simp [hx])
 have hk:∀ x∈p1,x.block<W.heap.size:=fun x hx=>by simpa using hj.lt x (by simp [hx])
 obtain ⟨q,hP,hb⟩:=nH_ (hf 0 26 v0 rfl rfl) h0
 refine (walkDone _ ep v0 q ⟨k,vol,file,tt,into,at',fr,ln,data⟩ W hP hb hp (hT.errs hL) hr).mono fun e W' ⟨he,hB⟩=>?_
 subst he
 have hc:DataW.Trod enc prog W' 0 (fun b=>decide (b<W.heap.size)) true 26 v0 d0 p0:=
  Below.trod laidOutL (by kernel_rfl) (of_decide_eq_true (by kernel_rfl)) h0 hB hm
 have hg:DataW.Trod enc prog W' 0 (fun b=>decide (b<W.heap.size)) true 28 (.agg #[.int .i64 k,.string vol,.string file,.string tt,.string into,.int .i64 at',.int .i64 fr,.int .i64 ln,.string data]) d1 p1:=
  Below.trod laidOutL (by kernel_rfl) (of_decide_eq_true (by kernel_rfl)) ho hB hk
 exact ⟨_,rfl,⟨_,_,_,[],_,_,hj,trodAll_mk1 (shut_bool underlying4 _),trodAll_cons_mk hc (trodAll_mk1 hg),hT.read enc hB _,hB.frame _,fun h=>by cases h⟩⟩
theorem holdsDone:Rows.FnExactDoneSaid:=
 OpenClaim.holds_of_wide 3 f3 rfl rfl rfl rfl rfl rfl rfl ⟨rfl,rfl,rfl,rfl,rfl⟩ rfl rfl rfl rfl rfl (by kernel_rfl) func3 (by kernel_rfl)
  (of_decide_eq_true (by kernel_rfl)) (by unfold Func.isWrapper;first | (rw [if_pos (by decide +kernel)];kernel_rfl) | (rw [if_neg (by decide +kernel)];exact ⟨rfl,rfl⟩))
  (fun os started H enc _=>liftedDone os started H enc)
theorem cardDone:Rows.FnExactDoneCardSaid:=
 Claim7.holds_tied_plain_at .later [] [.handle,.sentinel,.sentinel,.sentinel,.sentinel,.sentinel,.sentinel,.sentinel,.sentinel,.sentinel,.sentinel] true Rows.fnExactDoneCard.stood.harness true
  holdsDone (fun _ h=>by cases h) (by kernel_rfl) (fun _ h=>by cases h) fnExactDone_row_tie rfl ⟨rfl,rfl⟩ (by kernel_rfl) rfl
  (fun f fn hf ha=>by
   obtain rfl:f=3:=Zi ((show prog.funcNamed "loop.example/g00336/laws.FnExactDone"=some 3 by kernel_rfl).symm.trans hf) |>.symm
   obtain rfl:fn=f3:=(Zi (func3.symm.trans ha)).symm
   exact ⟨by kernel_rfl,fun j t ht=>by
    rw [params3] at ht
    have h3:t=26∨t=28:=by
     rcases j with _ | _ | j
     ·exact .inl (by simpa using ht.symm)
     ·exact .inr (by simpa using ht.symm)
     ·simp at ht
    rcases h3 with rfl | rfl
    ·exact (show prog.wantsStandIn 26=false by kernel_rfl)
    ·exact (show prog.wantsStandIn 28=false by kernel_rfl)⟩)
  (by kernel_rfl)
end Go.Proofs.YtbbhcnjhohidnaaGreatDoor
