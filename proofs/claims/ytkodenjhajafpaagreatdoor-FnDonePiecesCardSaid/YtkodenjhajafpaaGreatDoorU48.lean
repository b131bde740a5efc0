/- weighing. -/
import Derived.Test.YtkodenjhajafpaaGreatDoorU43
import Derived.Test.YtkodenjhajafpaaGreatDoorU45
import Derived.Test.YtkodenjhajafpaaGreatDoorU38
set_option maxHeartbeats 20000000
set_option maxRecDepth 100000
namespace Go.Proofs.YtkodenjhajafpaaGreatDoor
section
open Go Go.ChangeShapes Go.WideShapes Go.RowKit Go.BigFrame _root_.Go.Proofs.Tryz
variable{H:Type}{a_errAfter a_errBytes a_errFile a_errFixed a_errOp a_errParts a_errRoom a_errThere a_errVolume ep:Addr}{W W':World}
theorem Iu:prog.globalNamed "errors.errorType"=some 3:=by kernel_rfl
theorem rtL:(prog.cutTypes.find? (·.1=="internal/reflectlite.rtype")).map (·.2)=some 200:=by kernel_rfl
theorem Ik:prog.types.size=310:=by kernel_rfl
theorem Hm:((List.range 310).filter fun t=>prog.rowNamed t [101,114,114,111,114])=[60]:=by kernel_rfl
theorem ik_ (h:laidMetH prog DU W):W.cell? ⟨3,0,none⟩=some (.iface 200 (.agg #[.pointer (some ⟨11,60,none⟩)])):=by
 have h':laidMet prog EM W∧handlesMet prog [("errors.errorType",Rows.laid_errors_errorType)] W:=h;obtain⟨name,u,ty,e1,e2,e3,e4,e5⟩:=h'.2 _ (YP.2 rfl);have en:name=[101,114,114,111,114]:=(Zi e1).symm;subst en;obtain rfl:=Zi (rtL.symm.trans e2);have hm:ty∈(List.range 310).filter fun t=>prog.rowNamed t [101,114,114,111,114]:=YG.2 ⟨List.mem_range.2 (by rw[<-Ik];exact e3),e4⟩;rw[Hm] at hm;obtain rfl:=YP.1 hm;have hh:typeHandle prog 60=.pointer (some ⟨11,60,none⟩):=by kernel_rfl
 rw[hh] at e5;simpa using World.var?_cell Iu e5 0
def DM (l:List Addr)(a:Addr):Prop:=a∈l
theorem c8_ {n:String}{g:Nat}{a:Addr}(hg:prog.globalNamed n=some g)(h:W.var? prog n=some #[.iface 279 (.pointer (some a))]):BF W g a:=by
 unfold BF;simpa using World.var?_cell hg h 0
theorem Ten.errs (h:Ten W ep a_errOp a_errVolume a_errFile a_errBytes a_errThere a_errFixed a_errRoom a_errParts a_errAfter)(hL:laidMetH prog DU W):Gf (DM [a_errOp,a_errVolume,a_errFile,a_errBytes,a_errThere,a_errFixed,a_errRoom,a_errParts,a_errAfter]) ep W:=by
 refine⟨⟨⟨_,c8_ lr_ h.errOp.v1,by simp[DM]⟩,⟨_,c8_ gb_ h.errVolume.v1,by simp[DM]⟩,⟨_,c8_ ii_ h.errFile.v1,by simp[DM]⟩,⟨_,c8_ gO_ h.errBytes.v1,by simp[DM]⟩,⟨_,c8_ gP_ h.errThere.v1,by simp[DM]⟩,⟨_,c8_ gQ_ h.errFixed.v1,by simp[DM]⟩,⟨_,c8_ ij_ h.errRoom.v1,by simp[DM]⟩,⟨_,c8_ gR_ h.errParts.v1,by simp[DM]⟩,⟨_,c8_ gS_ h.errAfter.v1,by simp[DM]⟩⟩,c8_ ih_ h.errOp.v0,fun a ha=>?_,h.errOp.b0,fun a ha=>?_,ik_ hL⟩
 ·simp only[DM,Zn,List.not_mem_nil,or_false] at ha;rcases ha with rfl | rfl | rfl | rfl | rfl | rfl | rfl | rfl | rfl
  ·exact h.errOp.ne.symm
  ·exact h.errVolume.ne.symm
  ·exact h.errFile.ne.symm
  ·exact h.errBytes.ne.symm
  ·exact h.errThere.ne.symm
  ·exact h.errFixed.ne.symm
  ·exact h.errRoom.ne.symm
  ·exact h.errParts.ne.symm
  ·exact h.errAfter.ne.symm
 ·simp only[DM,Zn,List.not_mem_nil,or_false] at ha;rcases ha with rfl | rfl | rfl | rfl | rfl | rfl | rfl | rfl | rfl
  ·exact h.errOp.b1
  ·exact h.errVolume.b1
  ·exact h.errFile.b1
  ·exact h.errBytes.b1
  ·exact h.errThere.b1
  ·exact h.errFixed.b1
  ·exact h.errRoom.b1
  ·exact h.errParts.b1
  ·exact h.errAfter.b1
theorem bw_ {n:String}{cs:Array Value}(h:W.var? prog n=some cs)(hb:Below W.heap.size W W'):W'.var? prog n=some cs:=by
 unfold World.var? at h ⊢
 cases hg:prog.globalNamed n with
 |none=>simp[hg] at h
 |some g=>
  simp only[hg,YO] at h ⊢
  have ha:g<W.heap.size:=by
   rcases Nat.lt_or_ge g W.heap.size with h' | h'
   ·exact h'
   ·simp[Array.getElem?_eq_none h'] at h
  rw[hb.block g ha];exact h
theorem il_ (enc:TypeId×Value->H)(sp:Nat->Bool):∀ (l:List (String×Nat×Addr)),(∀ x∈l,prog.globalNamed x.1=some x.2.1∧(prog.globals[x.2.1]?).map (·.type)=some 60∧W.var? prog x.1=some #[.iface 279 (.pointer (some x.2.2))])->DataW.TrodVars enc prog W sp (l.map (·.1)) (l.map (fun x=>tok enc (.iface 279 (.pointer (some x.2.2))))) (l.map (fun x=>.cell x.2.1 0))
 |[],_=>rfl
 |x::r,h=>by
  obtain⟨h1,h2,h3⟩:=h x (by simp);exact⟨x.2.1,60,_,1,[],_,h1,h2,h3,trod_held underlying60 (show IsIface (.iface 279 (.pointer (some x.2.2))) from trivial) 0,il_ enc sp r (fun y hy=>h y (by simp[hy])),rfl⟩
def Ht (ep a_errOp a_errVolume a_errFile a_errBytes a_errThere a_errFixed a_errRoom a_errParts a_errAfter:Addr):List (String×Nat×Addr):=[("loop.example/g00336/impl.errPool",0,ep),("loop.example/g00336/impl.errOp",1,a_errOp),("loop.example/g00336/impl.errAfter",2,a_errAfter),("loop.example/g00336/impl.errVolume",4,a_errVolume),("loop.example/g00336/impl.errFixed",5,a_errFixed),("loop.example/g00336/impl.errThere",6,a_errThere),("loop.example/g00336/impl.errRoom",7,a_errRoom),("loop.example/g00336/impl.errParts",10,a_errParts),("loop.example/g00336/impl.errFile",8,a_errFile),("loop.example/g00336/impl.errBytes",9,a_errBytes)]
theorem Ten.read (enc:TypeId×Value->H)(h:Ten W ep a_errOp a_errVolume a_errFile a_errBytes a_errThere a_errFixed a_errRoom a_errParts a_errAfter)(hb:Below W.heap.size W W')(sp:Nat->Bool):DataW.TrodVars enc prog W' sp ((Ht ep a_errOp a_errVolume a_errFile a_errBytes a_errThere a_errFixed a_errRoom a_errParts a_errAfter).map (·.1)) ((Ht ep a_errOp a_errVolume a_errFile a_errBytes a_errThere a_errFixed a_errRoom a_errParts a_errAfter).map (fun x=>tok enc (.iface 279 (.pointer (some x.2.2))))) ((Ht ep a_errOp a_errVolume a_errFile a_errBytes a_errThere a_errFixed a_errRoom a_errParts a_errAfter).map (fun x=>.cell x.2.1 0)):=by
 refine il_ enc sp _ (fun x hx=>?_);simp only[Ht,Zn,List.not_mem_nil,or_false] at hx;rcases hx with rfl | rfl | rfl | rfl | rfl | rfl | rfl | rfl | rfl | rfl
 ·exact⟨ih_,mt_,bw_ h.errOp.v0 hb⟩
 ·exact⟨lr_,pd_,bw_ h.errOp.v1 hb⟩
 ·exact⟨gS_,lw_,bw_ h.errAfter.v1 hb⟩
 ·exact⟨gb_,jM_,bw_ h.errVolume.v1 hb⟩
 ·exact⟨gQ_,lu_,bw_ h.errFixed.v1 hb⟩
 ·exact⟨gP_,lt_,bw_ h.errThere.v1 hb⟩
 ·exact⟨ij_,mv_,bw_ h.errRoom.v1 hb⟩
 ·exact⟨gR_,lv_,bw_ h.errParts.v1 hb⟩
 ·exact⟨ii_,mu_,bw_ h.errFile.v1 hb⟩
 ·exact⟨gO_,ls_,bw_ h.errBytes.v1 hb⟩
noncomputable def Cu:Nat:=(World.holding prog default ⟨#[],#[],[]⟩).heap.size
noncomputable def FN (os:Os):World:=
 let w0:=World.holding prog os ⟨#[.cells #[.string {data:=#[116,104,101,32,112,111,111,108,32,105,115,32,110,111,116,32,114,105,103,104,116]}] 298,.cells #[.string {data:=#[116,104,101,32,111,112,32,105,115,32,110,111,116,32,114,105,103,104,116]}] 298,.cells #[.string {data:=#[116,104,101,114,101,32,105,115,32,110,111,32,115,117,99,104,32,118,111,108,117,109,101]}] 298,.cells #[.string {data:=#[116,104,101,114,101,32,105,115,32,110,111,32,115,117,99,104,32,102,105,108,101]}] 298,.cells #[.string {data:=#[116,104,101,32,102,105,108,101,32,104,97,115,32,102,101,119,101,114,32,98,121,116,101,115]}] 298,.cells #[.string {data:=#[116,104,101,114,101,32,105,115,32,115,117,99,104,32,97,32,118,111,108,117,109,101]}] 298,.cells #[.string {data:=#[116,104,101,32,118,111,108,117,109,101,32,105,115,32,102,105,120,101,100]}] 298,.cells #[.string {data:=#[116,104,101,114,101,32,105,115,32,110,111,32,114,111,111,109,32,102,111,114,32,116,104,101,32,100,97,116,97]}] 298,.cells #[.string {data:=#[116,104,101,32,102,105,108,101,32,119,111,117,108,100,32,104,97,118,101,32,116,111,111,32,109,97,110,121,32,112,97,114,116,115,32,111,114,32,98,121,116,101,115]}] 298,.cells #[.string {data:=#[116,104,101,32,112,111,111,108,32,119,111,117,108,100,32,110,111,116,32,98,101,32,114,105,103,104,116]}] 298],#[],[]⟩
 {w0 with heap:=((((((((((w0.heap.modify 0 fun
   |.cells _ t frozen=>.cells #[.iface 279 (.pointer (some ⟨Cu+0,0,none⟩))] t frozen
   |o=>o).modify 1 fun
   |.cells _ t frozen=>.cells #[.iface 279 (.pointer (some ⟨Cu+1,0,none⟩))] t frozen
   |o=>o).modify 4 fun
   |.cells _ t frozen=>.cells #[.iface 279 (.pointer (some ⟨Cu+2,0,none⟩))] t frozen
   |o=>o).modify 8 fun
   |.cells _ t frozen=>.cells #[.iface 279 (.pointer (some ⟨Cu+3,0,none⟩))] t frozen
   |o=>o).modify 9 fun
   |.cells _ t frozen=>.cells #[.iface 279 (.pointer (some ⟨Cu+4,0,none⟩))] t frozen
   |o=>o).modify 6 fun
   |.cells _ t frozen=>.cells #[.iface 279 (.pointer (some ⟨Cu+5,0,none⟩))] t frozen
   |o=>o).modify 5 fun
   |.cells _ t frozen=>.cells #[.iface 279 (.pointer (some ⟨Cu+6,0,none⟩))] t frozen
   |o=>o).modify 7 fun
   |.cells _ t frozen=>.cells #[.iface 279 (.pointer (some ⟨Cu+7,0,none⟩))] t frozen
   |o=>o).modify 10 fun
   |.cells _ t frozen=>.cells #[.iface 279 (.pointer (some ⟨Cu+8,0,none⟩))] t frozen
   |o=>o).modify 2 fun
   |.cells _ t frozen=>.cells #[.iface 279 (.pointer (some ⟨Cu+9,0,none⟩))] t frozen
   |o=>o).modify 3 fun
   |.cells _ t frozen=>.cells #[.iface 200 (.agg #[.pointer (some ⟨11,60,none⟩)])] t frozen
   |o=>o}
theorem iB_ (os:Os)(args:Array Value):laidMetH prog DU ((FN os).forCall (fun _ _=>0) ⟨#[],args,[]⟩).memory:=
 laidMetH_of_parts (laidMet_of_run (ps:=[.cell 0 0,.cell (Cu+0) 0,.cell 1 0,.cell (Cu+1) 0,.cell 4 0,.cell (Cu+2) 0,.cell 8 0,.cell (Cu+3) 0,.cell 9 0,.cell (Cu+4) 0,.cell 6 0,.cell (Cu+5) 0,.cell 5 0,.cell (Cu+6) 0,.cell 7 0,.cell (Cu+7) 0,.cell 10 0,.cell (Cu+8) 0,.cell 2 0,.cell (Cu+9) 0]) 8 (by kernel_rfl) (by kernel_rfl) (by kernel_rfl)) (by kernel_rfl)
end
section
open Go.RowKit Go.BigFrame _root_.Go.Proofs.Tryz
theorem FA (a:Option Addr)(n cap:Nat)(w:World)(h:Co w a n)(hn:n<=1048576) :
  Calls prog 22 #[.slice a n cap] w fun e w'=>e=.returned (.pointer (some ⟨w.heap.size,0,none⟩))∧Rd w' w.heap.size∧Below w.heap.size w w':=by
 go_enter func22,ntmps22
 go_wp2
 go_returns
 go_light
 refine ⟨rfl,⟨a,n,cap,0,_,Blk.new _ _ _,Zg _,hn,h.below (by go_grown),fun ad h0 hb=>?_⟩,by go_grown⟩
 obtain⟨b,o,v,ha,_,_,hc⟩:=h 0 h0
 rw[hb] at ha
 cases ha
 exact Yk w _ hc
theorem HZ (a:Option Addr)(n cap:Nat)(w:World)(hn:n<=9223372036854775807) :
  Calls prog 7 #[.slice a n cap] w fun e w'=>e=.returned (.bool (decide (1048576<n)))∧w'=w:=by
 go_enter func7,ntmps7
 go_wp2
 go_returns
 go_light
 refine ⟨ac_ ?_,rfl⟩
 rw[YH]
 simp
 omega
end
section
open Go Go.RowKit Go.BigFrame _root_.Go.Proofs.Tryz
theorem Al.tyO {B:Nat}{w w':World}{v:Value}{p:Po}{row:Option Nat}(h:Al B w v p)(hg:w.grownBy w' row)(hr:BC w row 30):Al B w' v p:=by
 obtain⟨ea,en,ec,va,vn,vc,ra,rn,rc,la,ln,lc,rows,hv,h1,⟨h2,h3⟩,h4,h5,h6⟩:=h
 exact⟨ea,en,ec,va,vn,vc,ra,rn,rc,la,ln,lc,rows,hv,h1.ty hg hr (by decide),⟨h2.ty hg hr (by decide),h3.ty hg hr (by decide) (by decide)⟩,h4.ty hg hr (by decide),h5.ty hg hr (by decide),h6⟩
theorem Es {w:World}{b:Nat}{c0 c1 c2 c3 c4 c5:Value}{t:TypeId}(h:Blk w b #[c0,c1,c2,c3,c4,c5] t):w.cell? ⟨b,0,none⟩=some c0∧w.cell? ⟨b,1,none⟩=some c1∧w.cell? ⟨b,2,none⟩=some c2∧w.cell? ⟨b,3,none⟩=some c3∧w.cell? ⟨b,4,none⟩=some c4∧w.cell? ⟨b,5,none⟩=some c5:=⟨h.cell 0,h.cell 1,h.cell 2,h.cell 3,h.cell 4,h.cell 5⟩
end
end Go.Proofs.YtkodenjhajafpaaGreatDoor
namespace Go.Proofs.YtkodenjhajafpaaGreatDoor
section
open Go Go.RowKit Go.BigFrame _root_.Go.Proofs.Tryz
variable{B n:Nat}{a:Option Addr}{p:Po}{v:Value}{w:World}
theorem Di.t (h:Di B w v p):Al B w v p:=by
 obtain⟨rows,h⟩:=h;exact h.t
structure IQ where
 nm:ByteArray
 a:Option Addr
 n:Nat
 c:Nat
end
section
open Go Go.RowKit Go.BigFrame _root_.Go.Proofs.Tryz
variable{n:Nat}{a:Option Addr}
variable{irs:List IQ}
structure VQ where
 id:Int
 nm:ByteArray
 fx:Bool
 a:Option Addr
 n:Nat
 c:Nat
 irs:List IQ
end
section
open Go Go.RowKit Go.BigFrame _root_.Go.Proofs.Tryz
variable{α:Type}{ad:Addr}{L:List Nat}{B b i n:Nat}{a:Option Addr}{v:Value}{w w':World}{l:List α}
variable{x:IQ}
def IQ.cs (x:IQ):List Value:=[.string x.nm,.slice x.a x.n x.c]
def VQ.cs (x:VQ):List Value:=[.int .i64 x.id,.string x.nm,.bool x.fx,.slice x.a x.n x.c]
theorem Chg.blk {t:TypeId}(h:Chg L w w'){c:Array Value}(hc:Blk w b c t)(hb:b∉L):Blk w' b c t:=(h.block b hc.lt hb).trans hc
end
end Go.Proofs.YtkodenjhajafpaaGreatDoor
