/- weighing. -/
import Derived.Test.YtbbhcnjhohidnaaGreatDoorV35
set_option maxHeartbeats 20000000
set_option maxRecDepth 100000
namespace Go.Proofs.YtbbhcnjhohidnaaGreatDoor
section
open Go Go.ChangeShapes Go.WideShapes Go.RowKit Go.BigFrame _root_.Go.Proofs.Tryz
variable{H:Type}{a_errAfter a_errBytes a_errFile a_errFixed a_errOp a_errParts a_errRoom a_errThere a_errVolume ep:Addr}{W W':World}
def laidErr:List (String×DataW Unit):=[("errors.errorType",Rows.laid_errors_errorType),("loop.example/g00336/impl.errPool",Rows.laid_loop_example_g00336_impl_errPool),("loop.example/g00336/impl.errOp",Rows.laid_loop_example_g00336_impl_errOp),("loop.example/g00336/impl.errVolume",Rows.laid_loop_example_g00336_impl_errVolume),("loop.example/g00336/impl.errFile",Rows.laid_loop_example_g00336_impl_errFile),("loop.example/g00336/impl.errBytes",Rows.laid_loop_example_g00336_impl_errBytes),("loop.example/g00336/impl.errThere",Rows.laid_loop_example_g00336_impl_errThere),("loop.example/g00336/impl.errFixed",Rows.laid_loop_example_g00336_impl_errFixed),("loop.example/g00336/impl.errRoom",Rows.laid_loop_example_g00336_impl_errRoom),("loop.example/g00336/impl.errParts",Rows.laid_loop_example_g00336_impl_errParts),("loop.example/g00336/impl.errAfter",Rows.laid_loop_example_g00336_impl_errAfter)]
def laidS10:List (String×DataW Unit):=[("loop.example/g00336/impl.errPool",Rows.laid_loop_example_g00336_impl_errPool),("loop.example/g00336/impl.errOp",Rows.laid_loop_example_g00336_impl_errOp),("loop.example/g00336/impl.errVolume",Rows.laid_loop_example_g00336_impl_errVolume),("loop.example/g00336/impl.errFile",Rows.laid_loop_example_g00336_impl_errFile),("loop.example/g00336/impl.errBytes",Rows.laid_loop_example_g00336_impl_errBytes),("loop.example/g00336/impl.errThere",Rows.laid_loop_example_g00336_impl_errThere),("loop.example/g00336/impl.errFixed",Rows.laid_loop_example_g00336_impl_errFixed),("loop.example/g00336/impl.errRoom",Rows.laid_loop_example_g00336_impl_errRoom),("loop.example/g00336/impl.errParts",Rows.laid_loop_example_g00336_impl_errParts),("loop.example/g00336/impl.errAfter",Rows.laid_loop_example_g00336_impl_errAfter)]
theorem ik_ (h:laidMetH prog laidErr W):W.cell? ⟨3,0,none⟩=some (.iface 220 (.agg #[.pointer (some ⟨11,64,none⟩)])):=by
 have h':laidMet prog laidS10 W∧handlesMet prog [("errors.errorType",Rows.laid_errors_errorType)] W:=h;obtain⟨name,u,ty,e1,e2,e3,e4,e5⟩:=h'.2 _ (List.mem_singleton.2 rfl);have en:name=[101,114,114,111,114]:=(Zi e1).symm;subst en;obtain rfl:=Zi (rtL.symm.trans e2);have hm:ty∈(List.range 347).filter fun t=>prog.rowNamed t [101,114,114,111,114]:=List.mem_filter.2 ⟨List.mem_range.2 (by rw[<-sizeL];exact e3),e4⟩;rw[oneRowL] at hm;obtain rfl:=List.mem_singleton.1 hm;have hh:typeHandle prog 64=.pointer (some ⟨11,64,none⟩):=by kernel_rfl
 rw[hh] at e5;simpa using World.var?_cell glET e5 0
structure Two (W:World)(n0 n1:String)(a0 a1:Addr):Prop where
 v0:W.var? prog n0=some #[.iface 315 (.pointer (some a0))]
 v1:W.var? prog n1=some #[.iface 315 (.pointer (some a1))]
 ne:a0≠a1
 b0:∃ c t,W.heap[a0.block]?=some (.cells c t (0,0))
 b1:∃ c t,W.heap[a1.block]?=some (.cells c t (0,0))
theorem Two.same {n0 n1 n2:String}{a0 a1 b0 b1:Addr}(h:Two W n0 n1 a0 a1)(h':Two W n0 n2 b0 b1):b0=a0:=by
 have e:=h.v0.symm.trans h'.v0;simp only[Zo,Array.mk.injEq,List.cons.injEq,Value.iface.injEq,Value.pointer.injEq,and_true,true_and] at e;exact e.symm
structure Ten (W:World)(ep:Addr)(a_errOp a_errVolume a_errFile a_errBytes a_errThere a_errFixed a_errRoom a_errParts a_errAfter:Addr):Prop where
 errOp:Two W "loop.example/g00336/impl.errPool" "loop.example/g00336/impl.errOp" ep a_errOp
 errVolume:Two W "loop.example/g00336/impl.errPool" "loop.example/g00336/impl.errVolume" ep a_errVolume
 errFile:Two W "loop.example/g00336/impl.errPool" "loop.example/g00336/impl.errFile" ep a_errFile
 errBytes:Two W "loop.example/g00336/impl.errPool" "loop.example/g00336/impl.errBytes" ep a_errBytes
 errThere:Two W "loop.example/g00336/impl.errPool" "loop.example/g00336/impl.errThere" ep a_errThere
 errFixed:Two W "loop.example/g00336/impl.errPool" "loop.example/g00336/impl.errFixed" ep a_errFixed
 errRoom:Two W "loop.example/g00336/impl.errPool" "loop.example/g00336/impl.errRoom" ep a_errRoom
 errParts:Two W "loop.example/g00336/impl.errPool" "loop.example/g00336/impl.errParts" ep a_errParts
 errAfter:Two W "loop.example/g00336/impl.errPool" "loop.example/g00336/impl.errAfter" ep a_errAfter
def senS (l:List Addr)(a:Addr):Prop:=a∈l
theorem c8_ {n:String}{g:Nat}{a:Addr}(hg:prog.globalNamed n=some g)(h:W.var? prog n=some #[.iface 315 (.pointer (some a))]):SenAt W g a:=by
 unfold SenAt;simpa using World.var?_cell hg h 0
theorem Ten.errs (h:Ten W ep a_errOp a_errVolume a_errFile a_errBytes a_errThere a_errFixed a_errRoom a_errParts a_errAfter)(hL:laidMetH prog laidErr W):Errs (senS [a_errOp,a_errVolume,a_errFile,a_errBytes,a_errThere,a_errFixed,a_errRoom,a_errParts,a_errAfter]) ep W:=by
 refine⟨⟨⟨_,c8_ lr_ h.errOp.v1,by simp[senS]⟩,⟨_,c8_ gb_ h.errVolume.v1,by simp[senS]⟩,⟨_,c8_ ii_ h.errFile.v1,by simp[senS]⟩,⟨_,c8_ gO_ h.errBytes.v1,by simp[senS]⟩,⟨_,c8_ gP_ h.errThere.v1,by simp[senS]⟩,⟨_,c8_ gQ_ h.errFixed.v1,by simp[senS]⟩,⟨_,c8_ ij_ h.errRoom.v1,by simp[senS]⟩,⟨_,c8_ gR_ h.errParts.v1,by simp[senS]⟩,⟨_,c8_ gS_ h.errAfter.v1,by simp[senS]⟩⟩,c8_ ih_ h.errOp.v0,fun a ha=>?_,h.errOp.b0,fun a ha=>?_,ik_ hL⟩
 ·simp only[senS,Zn,List.not_mem_nil,or_false] at ha;rcases ha with rfl | rfl | rfl | rfl | rfl | rfl | rfl | rfl | rfl
  ·exact h.errOp.ne.symm
  ·exact h.errVolume.ne.symm
  ·exact h.errFile.ne.symm
  ·exact h.errBytes.ne.symm
  ·exact h.errThere.ne.symm
  ·exact h.errFixed.ne.symm
  ·exact h.errRoom.ne.symm
  ·exact h.errParts.ne.symm
  ·exact h.errAfter.ne.symm
 ·simp only[senS,Zn,List.not_mem_nil,or_false] at ha;rcases ha with rfl | rfl | rfl | rfl | rfl | rfl | rfl | rfl | rfl
  ·exact h.errOp.b1
  ·exact h.errVolume.b1
  ·exact h.errFile.b1
  ·exact h.errBytes.b1
  ·exact h.errThere.b1
  ·exact h.errFixed.b1
  ·exact h.errRoom.b1
  ·exact h.errParts.b1
  ·exact h.errAfter.b1
theorem bw_ {n:String}{cs:Array Value}(h:W.var? prog n=some cs)(hb:Below W.heap.size W W'):W'.var? prog n=some cs:=by
 unfold World.var? at h ⊢
 cases hg:prog.globalNamed n with
 |none=>simp[hg] at h
 |some g=>
  simp only[hg,Option.bind_some] at h ⊢
  have ha:g<W.heap.size:=by
   rcases Nat.lt_or_ge g W.heap.size with h' | h'
   ·exact h'
   ·simp[Array.getElem?_eq_none h'] at h
  rw[hb.block g ha];exact h
theorem il_ (enc:TypeId×Value->H)(sp:Nat->Bool):∀ (l:List (String×Nat×Addr)),(∀ x∈l,prog.globalNamed x.1=some x.2.1∧(prog.globals[x.2.1]?).map (·.type)=some 64∧W.var? prog x.1=some #[.iface 315 (.pointer (some x.2.2))])->DataW.TrodVars enc prog W sp (l.map (·.1)) (l.map (fun x=>tok enc (.iface 315 (.pointer (some x.2.2))))) (l.map (fun x=>.cell x.2.1 0))
 |[],_=>rfl
 |x::r,h=>by
  obtain⟨h1,h2,h3⟩:=h x (by simp);exact⟨x.2.1,64,_,1,[],_,h1,h2,h3,trod_held underlying64 (show IsIface (.iface 315 (.pointer (some x.2.2))) from trivial) 0,il_ enc sp r (fun y hy=>h y (by simp[hy])),rfl⟩
def tenL (ep a_errOp a_errVolume a_errFile a_errBytes a_errThere a_errFixed a_errRoom a_errParts a_errAfter:Addr):List (String×Nat×Addr):=[("loop.example/g00336/impl.errPool",0,ep),("loop.example/g00336/impl.errOp",1,a_errOp),("loop.example/g00336/impl.errAfter",2,a_errAfter),("loop.example/g00336/impl.errVolume",4,a_errVolume),("loop.example/g00336/impl.errFixed",5,a_errFixed),("loop.example/g00336/impl.errThere",6,a_errThere),("loop.example/g00336/impl.errRoom",7,a_errRoom),("loop.example/g00336/impl.errParts",10,a_errParts),("loop.example/g00336/impl.errFile",8,a_errFile),("loop.example/g00336/impl.errBytes",9,a_errBytes)]
theorem Ten.read (enc:TypeId×Value->H)(h:Ten W ep a_errOp a_errVolume a_errFile a_errBytes a_errThere a_errFixed a_errRoom a_errParts a_errAfter)(hb:Below W.heap.size W W')(sp:Nat->Bool):DataW.TrodVars enc prog W' sp ((tenL ep a_errOp a_errVolume a_errFile a_errBytes a_errThere a_errFixed a_errRoom a_errParts a_errAfter).map (·.1)) ((tenL ep a_errOp a_errVolume a_errFile a_errBytes a_errThere a_errFixed a_errRoom a_errParts a_errAfter).map (fun x=>tok enc (.iface 315 (.pointer (some x.2.2))))) ((tenL ep a_errOp a_errVolume a_errFile a_errBytes a_errThere a_errFixed a_errRoom a_errParts a_errAfter).map (fun x=>.cell x.2.1 0)):=by
 refine il_ enc sp _ (fun x hx=>?_);simp only[tenL,Zn,List.not_mem_nil,or_false] at hx;rcases hx with rfl | rfl | rfl | rfl | rfl | rfl | rfl | rfl | rfl | rfl
 ·exact⟨ih_,mt_,bw_ h.errOp.v0 hb⟩
 ·exact⟨lr_,pd_,bw_ h.errOp.v1 hb⟩
 ·exact⟨gS_,lw_,bw_ h.errAfter.v1 hb⟩
 ·exact⟨gb_,jM_,bw_ h.errVolume.v1 hb⟩
 ·exact⟨gQ_,lu_,bw_ h.errFixed.v1 hb⟩
 ·exact⟨gP_,lt_,bw_ h.errThere.v1 hb⟩
 ·exact⟨ij_,mv_,bw_ h.errRoom.v1 hb⟩
 ·exact⟨gR_,lv_,bw_ h.errParts.v1 hb⟩
 ·exact⟨ii_,mu_,bw_ h.errFile.v1 hb⟩
 ·exact⟨gO_,ls_,bw_ h.errBytes.v1 hb⟩
noncomputable def lowL:Nat:=(World.holding prog default ⟨#[],#[],[]⟩).heap.size
noncomputable def laidWorldL (os:Os):World:=
 let w0:=World.holding prog os ⟨#[.cells #[.string {data:=#[116,104,101,32,112,111,111,108,32,105,115,32,110,111,116,32,114,105,103,104,116]}] 335,.cells #[.string {data:=#[116,104,101,32,111,112,32,105,115,32,110,111,116,32,114,105,103,104,116]}] 335,.cells #[.string {data:=#[116,104,101,114,101,32,105,115,32,110,111,32,115,117,99,104,32,118,111,108,117,109,101]}] 335,.cells #[.string {data:=#[116,104,101,114,101,32,105,115,32,110,111,32,115,117,99,104,32,102,105,108,101]}] 335,.cells #[.string {data:=#[116,104,101,32,102,105,108,101,32,104,97,115,32,102,101,119,101,114,32,98,121,116,101,115]}] 335,.cells #[.string {data:=#[116,104,101,114,101,32,105,115,32,115,117,99,104,32,97,32,118,111,108,117,109,101]}] 335,.cells #[.string {data:=#[116,104,101,32,118,111,108,117,109,101,32,105,115,32,102,105,120,101,100]}] 335,.cells #[.string {data:=#[116,104,101,114,101,32,105,115,32,110,111,32,114,111,111,109,32,102,111,114,32,116,104,101,32,100,97,116,97]}] 335,.cells #[.string {data:=#[116,104,101,32,102,105,108,101,32,119,111,117,108,100,32,104,97,118,101,32,116,111,111,32,109,97,110,121,32,112,97,114,116,115,32,111,114,32,98,121,116,101,115]}] 335,.cells #[.string {data:=#[116,104,101,32,112,111,111,108,32,119,111,117,108,100,32,110,111,116,32,98,101,32,114,105,103,104,116]}] 335],#[],[]⟩
 {w0 with heap:=((((((((((w0.heap.modify 0 fun
   |.cells _ t frozen=>.cells #[.iface 315 (.pointer (some ⟨lowL+0,0,none⟩))] t frozen
   |o=>o).modify 1 fun
   |.cells _ t frozen=>.cells #[.iface 315 (.pointer (some ⟨lowL+1,0,none⟩))] t frozen
   |o=>o).modify 4 fun
   |.cells _ t frozen=>.cells #[.iface 315 (.pointer (some ⟨lowL+2,0,none⟩))] t frozen
   |o=>o).modify 8 fun
   |.cells _ t frozen=>.cells #[.iface 315 (.pointer (some ⟨lowL+3,0,none⟩))] t frozen
   |o=>o).modify 9 fun
   |.cells _ t frozen=>.cells #[.iface 315 (.pointer (some ⟨lowL+4,0,none⟩))] t frozen
   |o=>o).modify 6 fun
   |.cells _ t frozen=>.cells #[.iface 315 (.pointer (some ⟨lowL+5,0,none⟩))] t frozen
   |o=>o).modify 5 fun
   |.cells _ t frozen=>.cells #[.iface 315 (.pointer (some ⟨lowL+6,0,none⟩))] t frozen
   |o=>o).modify 7 fun
   |.cells _ t frozen=>.cells #[.iface 315 (.pointer (some ⟨lowL+7,0,none⟩))] t frozen
   |o=>o).modify 10 fun
   |.cells _ t frozen=>.cells #[.iface 315 (.pointer (some ⟨lowL+8,0,none⟩))] t frozen
   |o=>o).modify 2 fun
   |.cells _ t frozen=>.cells #[.iface 315 (.pointer (some ⟨lowL+9,0,none⟩))] t frozen
   |o=>o).modify 3 fun
   |.cells _ t frozen=>.cells #[.iface 220 (.agg #[.pointer (some ⟨11,64,none⟩)])] t frozen
   |o=>o}
theorem iB_ (os:Os)(args:Array Value):laidMetH prog laidErr ((laidWorldL os).forCall (fun _ _=>0) ⟨#[],args,[]⟩).memory:=
 laidMetH_of_parts (laidMet_of_run (ps:=[.cell 0 0,.cell (lowL+0) 0,.cell 1 0,.cell (lowL+1) 0,.cell 4 0,.cell (lowL+2) 0,.cell 8 0,.cell (lowL+3) 0,.cell 9 0,.cell (lowL+4) 0,.cell 6 0,.cell (lowL+5) 0,.cell 5 0,.cell (lowL+6) 0,.cell 7 0,.cell (lowL+7) 0,.cell 10 0,.cell (lowL+8) 0,.cell 2 0,.cell (lowL+9) 0]) 8 (by kernel_rfl) (by kernel_rfl) (by kernel_rfl)) (by kernel_rfl)
end
section
open Go Go.RowKit Go.BigFrame _root_.Go.Proofs.Tryz
theorem ResAt.re {α β:Type} {cs:α->List Value} {cs':β->List Value} {sz:Nat} {t:TypeId} {w:World} {B n cap:Nat} {a:Option Addr} {l:List α} {m:List β} (h:ResAt cs sz t w B a n cap l) (e:l.map cs=m.map cs'):ResAt cs' sz t w B a n cap m:=by
 have hl:l.length=m.length:=by simpa using congrArg List.length e
 have hf:l.flatMap cs=m.flatMap cs':=by rw [List.flatMap_def,List.flatMap_def,e]
 refine ⟨⟨hl▸h.sl.len,fun i y hy=>?_⟩,?_⟩
 ·have h1:(l.map cs)[i]?=some (cs' y):=by rw [e];simp [hy]
  rw [List.getElem?_map] at h1
  obtain ⟨x,hx,ha⟩:=ZW.1 h1
  rw [<-ha]
  exact h.sl.cell i x hx
 ·rw [<-hf]
  exact h.own
def iq (r:IR):IQ:=⟨r.nm,r.pa,r.pn,r.pc⟩
theorem al_of {B:Nat} {w:World}:∀ (rs:List IR) (l:List It),RowsT B w rs l->Al2 (ItR w B) (rs.map iq) l
 |[],[],_=>.nil
 |[],_::_,h=>by have:=h.len;simp at this
 |_::_,[],h=>by have:=h.len;simp at this
 |r::rs,y::l,h=>.cons ⟨(h.at' 0 r y rfl rfl).nm,(h.at' 0 r y rfl rfl).ps⟩ (al_of rs l ⟨by have:=h.len;simpa using this,fun i r y h1 h2=>h.at' (i+1) r y h1 h2⟩)
theorem vq_of {B:Nat} {w:World}:∀ (rows:List VR) (l:List Vo),VolsT B w rows l->∃ vr:List VQ,rows.map vrs=vr.map VQ.cs∧Al2 (VoR w B) vr l∧vblk vr=rows.filterMap (fun r=>blkO r.pa)∧pblk vr=rows.flatMap (pbk w)
 |[],[],_=>⟨[],rfl,.nil,rfl,rfl⟩
 |[],_::_,h=>by have:=h.len;simp at this
 |_::_,[],h=>by have:=h.len;simp at this
 |r::rows,y::l,h=>by
  obtain ⟨vr,e,al,e1,e2⟩:=vq_of rows l ⟨by have:=h.len;simpa using this,fun i r y h1 h2=>h.at' (i+1) r y h1 h2⟩
  obtain ⟨i1,i2,i3,rs,R,T⟩:=h.at' 0 r y rfl rfl
  refine ⟨⟨r.id,r.nm,r.fx,r.pa,r.pn,r.pc,rs.map iq⟩::vr,by rw [List.map_cons,List.map_cons,e];rfl,.cons ⟨i1,i2,i3,R.re (by rw [List.map_map];rfl),al_of rs _ T⟩ al,?_,?_⟩
  ·unfold vblk at e1 ⊢
   simp only [List.filterMap_cons,e1]
  ·unfold pblk at e2 ⊢
   rw [ZF,ZF,e2,cv_ R.sl]
   congr 1
   rw [List.filterMap_map]
   rfl
theorem nodup_sep:∀ (rows:List VR),SepV rows->(rows.filterMap fun r=>blkO r.pa).Nodup
 |[],_=>List.nodup_nil
 |r::rows,h=>by
  have ih:=nodup_sep rows (fun i j a b x y hc h1 h2=>h (i+1) (j+1) a b x y (by omega) h1 h2)
  cases e:r.pa with
  |none=>
   rw [List.filterMap_cons_none (by rw [e];rfl)]
   exact ih
  |some x=>
   rw [List.filterMap_cons_some (b:=x.block) (by rw [e];rfl)]
   refine List.nodup_cons.2 ⟨fun hm=>?_,ih⟩
   obtain ⟨s,hs,hb⟩:=List.mem_filterMap.1 hm
   obtain ⟨y,hy,ha⟩:=ZW.1 hb
   obtain ⟨j,hj,rfl⟩:=List.getElem_of_mem hs
   exact h 0 (j+1) r rows[j] x y (by omega) rfl (by simp [hj]) e hy ha.symm
theorem PoolX.k {B:Nat} {w:World} {v:Value} {p:Po} (h:PoolX B w v p):PoolK B w v p:=by
 obtain ⟨rows,ea,en,ec,va,vn,vc,ra,rn,rc,la,ln,lc,hv,h1,⟨h2,h3⟩,h4,h5,h6,h7,h8⟩:=h
 obtain ⟨vr,e,al,e1,e2⟩:=vq_of rows p.vs h3
 exact ⟨ea,en,ec,va,vn,vc,ra,rn,rc,la,ln,lc,vr,hv,h1,h2.re e,h4,h5,h6,al,e1▸nodup_sep rows h7,e2▸h8⟩
theorem PoolX.same {B:Nat} {w w':World} {v:Value} {p:Po} (h:PoolX B w v p) (he:∀ b,B<=b->b<w.heap.size->w'.heap[b]?=w.heap[b]?):PoolX B w' v p:=by
 obtain ⟨rows,ea,en,ec,va,vn,vc,ra,rn,rc,la,ln,lc,hv,h1,⟨h2,h3⟩,h4,h5,h6,h7,h8⟩:=h
 have g:∀ {α:Type} {cs:α->List Value} {sz:Nat} {t:TypeId} {n cap:Nat} {a:Option Addr} {l:List α},ResAt cs sz t w B a n cap l->ResAt cs sz t w' B a n cap l:=fun h=>h.same fun ad e=>he _ (h.block ad e).1 (h.block ad e).2
 have V:∀ r y,VolT B w r y->VolT B w' r y:=fun r y ⟨a1,a2,a3,rs,R,T⟩=>⟨a1,a2,a3,rs,g R,T.len,fun i r y q1 q2=>⟨(T.at' i r y q1 q2).nm,g (T.at' i r y q1 q2).ps⟩⟩
 refine ⟨rows,ea,en,ec,va,vn,vc,ra,rn,rc,la,ln,lc,hv,g h1,⟨g h2,h3.len,fun i r y q1 q2=>V r y (h3.at' i r y q1 q2)⟩,g h4,g h5,h6,h7,?_⟩
 have hp:rows.flatMap (pbk w')=rows.flatMap (pbk w):=by
  rw [List.flatMap_def,List.flatMap_def]
  congr 1
  refine List.map_congr_left fun r hr=>?_
  obtain ⟨y,V⟩:=h3.of_mem hr
  exact fP_ V fun rs R=>(g R).sl
 unfold NP at h8 ⊢
 rw [hp]
 exact h8
theorem xgo_mem {size:Int}:∀ {l:List Ex} {next:Int},xgo size next l=true->∀ x∈l,x.d.size<=20
 |[],_,_,x,hx=>by cases hx
 |e::r,next,h,x,hx=>by
  simp only [xgo,dataOkB,Zf,ZU] at h
  rcases Zn.1 hx with rfl | hx
  ·omega
  ·exact xgo_mem h.2 x hx
theorem name_le {d:ByteArray} (h:nameB d=true):d.size<=8:=by
 simp only [nameB,Zf,ZU] at h
 omega
theorem owner_le {o:Ow} (h:ownerOkB o=true):o.f.size<=8:=by
 simp only [ownerOkB,Zf] at h
 exact name_le h.2
theorem sum_le {α:Type} (f:α->Nat) (m:Nat):∀ (l:List α),(∀ x∈l,f x<=m)->(l.map f).sum<=l.length*m
 |[],_=>by simp
 |x::r,h=>by
  have h1:=h x (by simp)
  have h2:=sum_le f m r (fun y hy=>h y (by simp [hy]))
  simp only [List.map_cons,List.sum_cons,Zw,Yd]
  omega
theorem dimk_right {p:Po} (hp:poolB p=true) (hd:DimP p):DimK p:=by
 have hc:=ib_ hp hd
 obtain ⟨a1,_,_,a4,a5⟩:=aQ_ hp
 obtain ⟨_,_,b3,b4⟩:=cu_ a1
 have hv:∀ v∈p.vs,v.nm.size<=8∧v.its.length<=6∧∀ x∈v.its,x.nm.size<=8∧x.ps.length<=16:=fun v hv=>by
  obtain ⟨_,_,g3,g4,g5⟩:=hc.g v hv
  exact ⟨name_le g3,g4,fun x hx=>⟨name_le (g5 x hx).1,(ae_ (g5 x hx).2).1⟩⟩
 have ha:=hc.vn
 have r1:=hc.rl
 have l1:=hc.ll
 have hR:∀ c∈p.rf,c.o.f.size<=8:=fun c h=>by
  simp only [refsOkB,Zf] at a4
  have:=g1_ a4.2 c h
  simp only [refB,Zf] at this
  exact owner_le this.1.1
 have hL:∀ c∈p.lt,c.o.f.size<=8:=fun c h=>by
  simp only [lateOkB,Zf,List.all_eq_true] at a5
  have:=a5.2 c h
  simp only [lateB,Zf] at this
  exact owner_le this.1.1.1
 refine ⟨⟨⟨by omega,fun x hx=>by have:=xgo_mem b4 x hx;omega⟩,⟨by omega,fun v h=>⟨by have:=(hv v h).1;omega,by have:=(hv v h).2.1;omega,fun x hx=>by have:=(hv v h).2.2 x hx;omega⟩⟩,⟨by omega,fun c h=>by have:=hR c h;omega⟩,by omega,fun c h=>by have:=hL c h;omega⟩,by omega,by omega,fun v h=>⟨by have:=(hv v h).2.1;omega,fun x hx=>by have:=((hv v h).2.2 x hx).2;omega⟩,?_,by omega,by omega⟩
 have h1:∀ v∈p.vs,3+(v.its.map fun x=>1+3*x.ps.length).sum<=300:=fun v h=>by
  have h2:=sum_le (fun x:It=>1+3*x.ps.length) 49 v.its (fun x hx=>by have:=((hv v h).2.2 x hx).2;omega)
  have h3:=(hv v h).2.1
  have h4:v.its.length*49<=6*49:=ZS _ h3
  omega
 have h5:=sum_le (fun v:Vo=>3+(v.its.map fun x=>1+3*x.ps.length).sum) 300 p.vs h1
 have h6:p.vs.length*300<=7*300:=ZS _ ha
 unfold nVs
 omega
theorem dimk_none:DimK ⟨0,0,[],[],[],[]⟩:=by
 refine ⟨⟨⟨by simp,by simp⟩,⟨by simp,by simp⟩,⟨by simp,by simp⟩,by simp,by simp⟩,by simp,by simp,by simp,by simp [nVs],by simp,by simp⟩
theorem dimk_done (p:Po) (o:Opr) (hd:DimP p) (hq:DimP (doneS p o).2):DimK (doneS p o).2:=by
 unfold doneS at hq ⊢
 split at hq
 ·rename_i hp
  rw [if_pos hp]
  unfold opS at hq ⊢
  split at hq
  ·rename_i ho
   rw [if_pos ho]
   split at hq
   ·rename_i hk
    rw [if_pos hk]
    exact dimk_right (le_ hp) hq
   ·rename_i hk
    rw [if_neg hk]
    split at hq
    ·rename_i ht
     rw [if_pos ht]
     split at hq
     ·rename_i hr
      rw [if_pos hr]
      exact dimk_right hr hq
     ·rename_i hr
      rw [if_neg hr]
      exact dimk_right hp hd
    ·rename_i ht
     rw [if_neg ht]
     exact dimk_right hp hd
  ·rename_i ho
   rw [if_neg ho]
   exact dimk_right hp hd
 ·rename_i hp
  rw [if_neg hp]
  exact dimk_none
def putAll (x:Nat->Value) (D:List Nat) (a:Act):Act:=D.foldl (fun b k=>b.put (some k) (x k)) a
def CutQ (D:List Nat) (a0:Act) (Φ:(Nat->Value)->World->Prop):Exit->Act->World->Prop:=fun e a u=>e=.normal∧∃ x,a=putAll x D a0∧Φ x u
theorem region_cut {P:Program} {l:List Oper} {Q:Exit->Act->World->Prop} {id:Nat} {a0:Act} {w:World} (S:World->Prop) (n:Nat) (D:List Nat) (Φ:(Nat->Value)->World->Prop) (hSB:∀ u,Below w.heap.size w u->S u)
  (h1:(∀ u,Below w.heap.size w u->S u)->∀ u,Below w.heap.size w u->S u->wpAnyH P .any l.toArray (CutQ D a0 Φ) S n (Array.replicate n false) a0 u) (h2:∀ x u,Φ x u->Q .normal (putAll x D a0) u) (hm:P.follows .mixedOrders=true:=by kernel_rfl) (hn:l.toArray.size=n:=by rfl):(Code.region id l.toArray true).wp P Q a0 w:=by
 subst hn
 refine Code.wp_mono ?_ (wp_region_held (S:=S) hm (h1 hSB _ ((Below.refl _ _).drew) (hSB _ ((Below.refl _ _).drew))))
 rintro e a u ⟨rfl,x,rfl,hx⟩
 exact h2 x u hx
theorem leaf_of {D:List Nat} {a0 a:Act} {Φ:(Nat->Value)->World->Prop} {u:World} (hΦ:Φ (fun k=>a.eval (.tmp k)) u) (hA:a=putAll (fun k=>a.eval (.tmp k)) D a0:=by simp only [putAll,List.foldl_cons,List.foldl_nil,Act.put,Act.eval,lsA,lsB,lsC,Array.getD_eq_getD_getElem?,lgA,lgB,lgC,Option.getD_some]):CutQ D a0 Φ .normal a u:=⟨rfl,_,hA,hΦ⟩
theorem tkc {P:Program} {D:List Nat} {a0:Act} {Φ:(Nat->Value)->World->Prop} {md:Region.Mode} {S:World->Prop} {l:List Oper} (i:Nat) {oi:Oper} {v:Value} {fuel:Nat} {listed li:Array Bool} {a b:Act} {w:World} (h:wpAnyH P md l.toArray (CutQ D a0 Φ) S fuel li b w) (hi:l[i]?=some oi:=by rfl)
  (hB:(Region.noSelect l.toArray&&Region.free md l.toArray listed i&&(Region.ready md l.toArray listed).contains i)=true:=by kernel_rfl) (hw:Region.wanted oi (yielded l.toArray a.tmps)=true:=by rfl)
  (hy:∀ w,S w->(execOp a.eval oi).run P w=.ok (.value v) w:=by (intro u hu;(try dsimp only at hu);go_simp<;>with_reducible rfl)) (hS:S w:=by first | assumption | trivial)
  (hl:listed.setIfInBounds i true=li:=by (try simp only [lsA,lsB,lsC]);rfl) (ha:a.put oi.dst v=b:=by (try simp only [Act.put,lsA,lsB,lsC]);rfl):wpAnyH P md l.toArray (CutQ D a0 Φ) S (fuel+1) listed a w:=by
 subst hl ha
 simp only [Zf] at hB
 exact takeL hi hB.1.1 hB.1.2 hB.2 (fun c _ w h=>by cases h.1) (.inl ⟨hw,hy⟩) hS h
theorem twoC {P:Program} {Q:Exit->Act->World->Prop} {md:Region.Mode} {S:World->Prop} {l:List Oper} (i j:Nat) {o o':Oper} {fuel:Nat} {listed:Array Bool} {a:Act} {w:World}
  (h:∀ K':Act->World->Prop,Shut (∀ a w,S w->(S w->wpAnyH P md l.toArray Q S fuel (listed.setIfInBounds i true) a w)->K' a w)->if Region.wanted o (yielded l.toArray a.tmps)=true then Oper.wp P o a w K' Q else K' (a.put o.dst undef) w)
  (h':∀ K':Act->World->Prop,Shut (∀ a w,S w->(S w->wpAnyH P md l.toArray Q S fuel (listed.setIfInBounds j true) a w)->K' a w)->if Region.wanted o' (yielded l.toArray a.tmps)=true then Oper.wp P o' a w K' Q else K' (a.put o'.dst undef) w)
  (hr:Region.ready md l.toArray listed=[i,j]:=by kernel_rfl) (hi:l[i]?=some o:=by rfl) (hj:l[j]?=some o':=by rfl) :
  wpAnyH P md l.toArray Q S (fuel+1) listed a w:=
 wpAnyH_ready hr (by simp) (AllReadyH.cons (by simpa using hi) h (AllReadyH.cons (by simpa using hj) h' AllReadyH.nil))
theorem oneC {P:Program} {Q:Exit->Act->World->Prop} {md:Region.Mode} {S:World->Prop} {l:List Oper} (i:Nat) {o:Oper} {fuel:Nat} {listed:Array Bool} {a:Act} {w:World}
  (h:∀ K':Act->World->Prop,Shut (∀ a w,S w->(S w->wpAnyH P md l.toArray Q S fuel (listed.setIfInBounds i true) a w)->K' a w)->if Region.wanted o (yielded l.toArray a.tmps)=true then Oper.wp P o a w K' Q else K' (a.put o.dst undef) w)
  (hr:Region.ready md l.toArray listed=[i]:=by kernel_rfl) (hi:l[i]?=some o:=by rfl):wpAnyH P md l.toArray Q S (fuel+1) listed a w:=oneL hr hi h
theorem al6 {W u:World} (hU:Below W.heap.size W u):∃ ab U,ab=u.heap.size∧U=u.alloc (.cells #[.int .i64 0,.int .i64 0,.slice none 0 0,.slice none 0 0,.slice none 0 0,.slice none 0 0] 35)∧Blk U ab #[.int .i64 0,.int .i64 0,.slice none 0 0,.slice none 0 0,.slice none 0 0,.slice none 0 0] 35∧Below u.heap.size u U∧Below W.heap.size W U∧Hid (W.heap.size<=ab):=
 ⟨_,_,rfl,rfl,Blk.new _ _ _,(Below.refl _ _).alloc (Zd _) _,chain hU ((Below.refl _ _).alloc (Zd _) _),hU.size⟩
def PhQ (xa xc:Nat) (c:Int) (q:Po) (W:World) (R:World->Value->Prop) (x:Nat->Value) (u:World):Prop:=∃ ab a b d e f g i j k l m n,x xa=.pointer (some ⟨ab,0,none⟩)∧x xc=.int .i64 c∧Blk u ab #[.int .i64 q.size,.int .i64 q.next,.slice a b d,.slice e f g,.slice i j k,.slice l m n] 35∧R u (.agg #[.int .i64 q.size,.int .i64 q.next,.slice a b d,.slice e f g,.slice i j k,.slice l m n])∧Below W.heap.size W u∧W.heap.size<=ab
theorem leafP {D:List Nat} {a0 A:Act} {xa xc:Nat} {z:Int} {q:Po} {W u:World} {R:World->Value->Prop} {ab:Nat} {a e i l:Option Addr} {b d f g j k m n:Nat} (E:Blk u ab #[.int .i64 q.size,.int .i64 q.next,.slice a b d,.slice e f g,.slice i j k,.slice l m n] 35) (r:R u (.agg #[.int .i64 q.size,.int .i64 q.next,.slice a b d,.slice e f g,.slice i j k,.slice l m n])) (hU:Below W.heap.size W u) (h:Hid (W.heap.size<=ab))
  (h1:A.eval (.tmp xa)=.pointer (some ⟨ab,0,none⟩):=by simp only [Act.eval,Array.getD_eq_getD_getElem?,lgA,lgB,lgC,Option.getD_some]) (h2:A.eval (.tmp xc)=.int .i64 z:=by simp only [Act.eval,Array.getD_eq_getD_getElem?,lgA,lgB,lgC,Option.getD_some])
  (hA:A=putAll (fun k=>A.eval (.tmp k)) D a0:=by simp only [putAll,List.foldl_cons,List.foldl_nil,Act.put,Act.eval,lsA,lsB,lsC,Array.getD_eq_getD_getElem?,lgA,lgB,lgC,Option.getD_some]):CutQ D a0 (PhQ xa xc z q W R) .normal A u:=⟨rfl,_,hA,ab,a,b,d,e,f,g,i,j,k,l,m,n,h1,h2,E,r,hU,h.out⟩
theorem PoolT.put {B:Nat} {w w':World} {v:Value} {p:Po} {b:Nat} {c:Array Value} (h:PoolT B w v p) (hg:w.grownBy w' (some b)) (hb:Blk w b c 35):PoolT 0 w' v p:=(h.tyP hg (aa_ hb)).mono (Zg _)
theorem PoolX.put {B B':Nat} {w w':World} {v:Value} {p:Po} {b:Nat} {c:Array Value} (h:PoolX B w v p) (hB:B'<=B) (hg:w.grownBy w' (some b)) (hb:Blk w b c 35):PoolX B' w' v p:=by
 obtain ⟨rows,h⟩:=h
 exact ⟨rows,(h.tyP hg (aa_ hb)).mono hB⟩
theorem Blk.lo {B k:Nat} {w w':World} {c:Array Value} {t:TypeId} (h:Blk w k c t) (hb:Below B w w') (hk:k<B):Blk w' k c t:=by
 unfold Blk
 rw [hb.block _ hk]
 exact h
theorem Fr.belowOf {w w1 w2:World} {B0 T n:Nat} (hF:Fr B0 T w1 w2) (h:Below n w w1) (hn:n<=B0) (hs:n<=w1.heap.size):Below n w w2:=
 ⟨by rw [hF.os,h.os],by rw [hF.tape,h.tape],by rw [hF.output,h.output],Zl h.size hF.size,fun k hk=>by rw [hF.blk k (by omega) (.inl (by omega)),h.block k hk]⟩
theorem laws_toOp (o:Opr) (w:World) :
  Calls prog 9 #[.agg #[.int .i64 o.k,.string o.vol,.string o.file,.string o.to,.string o.into,.int .i64 o.at',.int .i64 o.fr,.int .i64 o.ln,.string o.data]] w fun e w'=>e=.returned (.agg #[.int .i64 o.k,.string o.vol,.string o.file,.string o.to,.string o.into,.int .i64 o.at',.int .i64 o.fr,.int .i64 o.ln,.string o.data])∧Below w.heap.size w w':=by
 go_enter func9,ntmps9
 go_wp2
 go_returns
 go_light
 exact ⟨rfl,by go_grown⟩
theorem laws_szOp (o:Opr) (r:Int) (w:World) (hs:StrO o) (h0:0<=r) (h1:r<=1048576) :
  Calls prog 6 #[.agg #[.int .i64 o.k,.string o.vol,.string o.file,.string o.to,.string o.into,.int .i64 o.at',.int .i64 o.fr,.int .i64 o.ln,.string o.data],.int .i64 r] w fun e w'=>(∃ r:Int,e=.returned (.int .i64 r))∧Below w.heap.size w w':=by
 have hv:=hs.vol
 have hf:=hs.file
 have ht:=hs.to
 have hi:=hs.into
 have hd:=hs.data
 clear hs
 go_enter func6,ntmps6
 go_wp2
 all_goals go_returns
 all_goals go_light
 all_goals exact ⟨⟨_,rfl⟩,by go_grown⟩
end
end Go.Proofs.YtbbhcnjhohidnaaGreatDoor
