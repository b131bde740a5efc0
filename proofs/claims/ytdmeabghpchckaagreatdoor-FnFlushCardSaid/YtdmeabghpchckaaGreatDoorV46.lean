/- weighing. -/
import Derived.Test.YtdmeabghpchckaaGreatDoorV42
import Derived.Test.YtdmeabghpchckaaGreatDoorU38
import Derived.Test.YtdmeabghpchckaaGreatDoorU44
import Derived.Test.YtdmeabghpchckaaGreatDoorU45
set_option maxHeartbeats 20000000
set_option maxRecDepth 100000
namespace Go.Proofs.YtdmeabghpchckaaGreatDoor
section
open Go Go.ChangeShapes Go.WideShapes Go.RowKit Go.BigFrame _root_.Go.Proofs.Tryz
variable{H:Type}{a_errAfter a_errBytes a_errFile a_errFixed a_errOp a_errParts a_errRoom a_errThere a_errVolume ep:Addr}{W W':World}
theorem Ij:prog.globalNamed "errors.errorType"=some 3:=by kernel_rfl
theorem rtL:(prog.cutTypes.find? (·.1=="internal/reflectlite.rtype")).map (·.2)=some 188:=by kernel_rfl
theorem Ib:prog.types.size=308:=by kernel_rfl
theorem Hf:((List.range 308).filter fun t=>prog.rowNamed t [101,114,114,111,114])=[58]:=by kernel_rfl
theorem ik_ (h:laidMetH prog DN W):W.cell? ⟨3,0,none⟩=some (.iface 188 (.agg #[.pointer (some ⟨11,58,none⟩)])):=by
 have h':laidMet prog EG W∧handlesMet prog [("errors.errorType",Rows.laid_errors_errorType)] W:=h;obtain⟨name,u,ty,e1,e2,e3,e4,e5⟩:=h'.2 _ (YP.2 rfl);have en:name=[101,114,114,111,114]:=(Zi e1).symm;subst en;obtain rfl:=Zi (rtL.symm.trans e2);have hm:ty∈(List.range 308).filter fun t=>prog.rowNamed t [101,114,114,111,114]:=YG.2 ⟨List.mem_range.2 (by rw[<-Ib];exact e3),e4⟩;rw[Hf] at hm;obtain rfl:=YP.1 hm;have hh:typeHandle prog 58=.pointer (some ⟨11,58,none⟩):=by kernel_rfl
 rw[hh] at e5;simpa using World.var?_cell Ij e5 0
def DF (l:List Addr)(a:Addr):Prop:=a∈l
theorem c8_ {n:String}{g:Nat}{a:Addr}(hg:prog.globalNamed n=some g)(h:W.var? prog n=some #[.iface 277 (.pointer (some a))]):BC W g a:=by
 unfold BC;simpa using World.var?_cell hg h 0
theorem Ten.errs (h:Ten W ep a_errOp a_errVolume a_errFile a_errBytes a_errThere a_errFixed a_errRoom a_errParts a_errAfter)(hL:laidMetH prog DN W):F8 (DF [a_errOp,a_errVolume,a_errFile,a_errBytes,a_errThere,a_errFixed,a_errRoom,a_errParts,a_errAfter]) ep W:=by
 refine⟨⟨⟨_,c8_ lr_ h.errOp.v1,by simp[DF]⟩,⟨_,c8_ gb_ h.errVolume.v1,by simp[DF]⟩,⟨_,c8_ ii_ h.errFile.v1,by simp[DF]⟩,⟨_,c8_ gO_ h.errBytes.v1,by simp[DF]⟩,⟨_,c8_ gP_ h.errThere.v1,by simp[DF]⟩,⟨_,c8_ gQ_ h.errFixed.v1,by simp[DF]⟩,⟨_,c8_ ij_ h.errRoom.v1,by simp[DF]⟩,⟨_,c8_ gR_ h.errParts.v1,by simp[DF]⟩,⟨_,c8_ gS_ h.errAfter.v1,by simp[DF]⟩⟩,c8_ ih_ h.errOp.v0,fun a ha=>?_,h.errOp.b0,fun a ha=>?_,ik_ hL⟩
 ·simp only[DF,Zn,List.not_mem_nil,or_false] at ha;rcases ha with rfl | rfl | rfl | rfl | rfl | rfl | rfl | rfl | rfl
  ·exact h.errOp.ne.symm
  ·exact h.errVolume.ne.symm
  ·exact h.errFile.ne.symm
  ·exact h.errBytes.ne.symm
  ·exact h.errThere.ne.symm
  ·exact h.errFixed.ne.symm
  ·exact h.errRoom.ne.symm
  ·exact h.errParts.ne.symm
  ·exact h.errAfter.ne.symm
 ·simp only[DF,Zn,List.not_mem_nil,or_false] at ha;rcases ha with rfl | rfl | rfl | rfl | rfl | rfl | rfl | rfl | rfl
  ·exact h.errOp.b1
  ·exact h.errVolume.b1
  ·exact h.errFile.b1
  ·exact h.errBytes.b1
  ·exact h.errThere.b1
  ·exact h.errFixed.b1
  ·exact h.errRoom.b1
  ·exact h.errParts.b1
  ·exact h.errAfter.b1
theorem bw_ {n:String}{cs:Array Value}(h:W.var? prog n=some cs)(hb:Below W.heap.size W W'):W'.var? prog n=some cs:=by
 unfold World.var? at h ⊢
 cases hg:prog.globalNamed n with
 |none=>simp[hg] at h
 |some g=>
  simp only[hg,YO] at h ⊢
  have ha:g<W.heap.size:=by
   rcases Nat.lt_or_ge g W.heap.size with h' | h'
   ·exact h'
   ·simp[Array.getElem?_eq_none h'] at h
  rw[hb.block g ha];exact h
theorem il_ (enc:TypeId×Value->H)(sp:Nat->Bool):∀ (l:List (String×Nat×Addr)),(∀ x∈l,prog.globalNamed x.1=some x.2.1∧(prog.globals[x.2.1]?).map (·.type)=some 58∧W.var? prog x.1=some #[.iface 277 (.pointer (some x.2.2))])->DataW.TrodVars enc prog W sp (l.map (·.1)) (l.map (fun x=>tok enc (.iface 277 (.pointer (some x.2.2))))) (l.map (fun x=>.cell x.2.1 0))
 |[],_=>rfl
 |x::r,h=>by
  obtain⟨h1,h2,h3⟩:=h x (by simp);exact⟨x.2.1,58,_,1,[],_,h1,h2,h3,trod_held underlying58 (show IsIface (.iface 277 (.pointer (some x.2.2))) from trivial) 0,il_ enc sp r (fun y hy=>h y (by simp[hy])),rfl⟩
def Hm (ep a_errOp a_errVolume a_errFile a_errBytes a_errThere a_errFixed a_errRoom a_errParts a_errAfter:Addr):List (String×Nat×Addr):=[("loop.example/g00336/impl.errPool",0,ep),("loop.example/g00336/impl.errOp",1,a_errOp),("loop.example/g00336/impl.errAfter",2,a_errAfter),("loop.example/g00336/impl.errVolume",4,a_errVolume),("loop.example/g00336/impl.errFixed",5,a_errFixed),("loop.example/g00336/impl.errThere",6,a_errThere),("loop.example/g00336/impl.errRoom",7,a_errRoom),("loop.example/g00336/impl.errParts",10,a_errParts),("loop.example/g00336/impl.errFile",8,a_errFile),("loop.example/g00336/impl.errBytes",9,a_errBytes)]
theorem Ten.read (enc:TypeId×Value->H)(h:Ten W ep a_errOp a_errVolume a_errFile a_errBytes a_errThere a_errFixed a_errRoom a_errParts a_errAfter)(hb:Below W.heap.size W W')(sp:Nat->Bool):DataW.TrodVars enc prog W' sp ((Hm ep a_errOp a_errVolume a_errFile a_errBytes a_errThere a_errFixed a_errRoom a_errParts a_errAfter).map (·.1)) ((Hm ep a_errOp a_errVolume a_errFile a_errBytes a_errThere a_errFixed a_errRoom a_errParts a_errAfter).map (fun x=>tok enc (.iface 277 (.pointer (some x.2.2))))) ((Hm ep a_errOp a_errVolume a_errFile a_errBytes a_errThere a_errFixed a_errRoom a_errParts a_errAfter).map (fun x=>.cell x.2.1 0)):=by
 refine il_ enc sp _ (fun x hx=>?_);simp only[Hm,Zn,List.not_mem_nil,or_false] at hx;rcases hx with rfl | rfl | rfl | rfl | rfl | rfl | rfl | rfl | rfl | rfl
 ·exact⟨ih_,mt_,bw_ h.errOp.v0 hb⟩
 ·exact⟨lr_,pd_,bw_ h.errOp.v1 hb⟩
 ·exact⟨gS_,lw_,bw_ h.errAfter.v1 hb⟩
 ·exact⟨gb_,jM_,bw_ h.errVolume.v1 hb⟩
 ·exact⟨gQ_,lu_,bw_ h.errFixed.v1 hb⟩
 ·exact⟨gP_,lt_,bw_ h.errThere.v1 hb⟩
 ·exact⟨ij_,mv_,bw_ h.errRoom.v1 hb⟩
 ·exact⟨gR_,lv_,bw_ h.errParts.v1 hb⟩
 ·exact⟨ii_,mu_,bw_ h.errFile.v1 hb⟩
 ·exact⟨gO_,ls_,bw_ h.errBytes.v1 hb⟩
noncomputable def Cm:Nat:=(World.holding prog default ⟨#[],#[],[]⟩).heap.size
noncomputable def FG (os:Os):World:=
 let w0:=World.holding prog os ⟨#[.cells #[.string {data:=#[116,104,101,32,112,111,111,108,32,105,115,32,110,111,116,32,114,105,103,104,116]}] 296,.cells #[.string {data:=#[116,104,101,32,111,112,32,105,115,32,110,111,116,32,114,105,103,104,116]}] 296,.cells #[.string {data:=#[116,104,101,114,101,32,105,115,32,110,111,32,115,117,99,104,32,118,111,108,117,109,101]}] 296,.cells #[.string {data:=#[116,104,101,114,101,32,105,115,32,110,111,32,115,117,99,104,32,102,105,108,101]}] 296,.cells #[.string {data:=#[116,104,101,32,102,105,108,101,32,104,97,115,32,102,101,119,101,114,32,98,121,116,101,115]}] 296,.cells #[.string {data:=#[116,104,101,114,101,32,105,115,32,115,117,99,104,32,97,32,118,111,108,117,109,101]}] 296,.cells #[.string {data:=#[116,104,101,32,118,111,108,117,109,101,32,105,115,32,102,105,120,101,100]}] 296,.cells #[.string {data:=#[116,104,101,114,101,32,105,115,32,110,111,32,114,111,111,109,32,102,111,114,32,116,104,101,32,100,97,116,97]}] 296,.cells #[.string {data:=#[116,104,101,32,102,105,108,101,32,119,111,117,108,100,32,104,97,118,101,32,116,111,111,32,109,97,110,121,32,112,97,114,116,115,32,111,114,32,98,121,116,101,115]}] 296,.cells #[.string {data:=#[116,104,101,32,112,111,111,108,32,119,111,117,108,100,32,110,111,116,32,98,101,32,114,105,103,104,116]}] 296],#[],[]⟩
 {w0 with heap:=((((((((((w0.heap.modify 0 fun
   |.cells _ t frozen=>.cells #[.iface 277 (.pointer (some ⟨Cm+0,0,none⟩))] t frozen
   |o=>o).modify 1 fun
   |.cells _ t frozen=>.cells #[.iface 277 (.pointer (some ⟨Cm+1,0,none⟩))] t frozen
   |o=>o).modify 4 fun
   |.cells _ t frozen=>.cells #[.iface 277 (.pointer (some ⟨Cm+2,0,none⟩))] t frozen
   |o=>o).modify 8 fun
   |.cells _ t frozen=>.cells #[.iface 277 (.pointer (some ⟨Cm+3,0,none⟩))] t frozen
   |o=>o).modify 9 fun
   |.cells _ t frozen=>.cells #[.iface 277 (.pointer (some ⟨Cm+4,0,none⟩))] t frozen
   |o=>o).modify 6 fun
   |.cells _ t frozen=>.cells #[.iface 277 (.pointer (some ⟨Cm+5,0,none⟩))] t frozen
   |o=>o).modify 5 fun
   |.cells _ t frozen=>.cells #[.iface 277 (.pointer (some ⟨Cm+6,0,none⟩))] t frozen
   |o=>o).modify 7 fun
   |.cells _ t frozen=>.cells #[.iface 277 (.pointer (some ⟨Cm+7,0,none⟩))] t frozen
   |o=>o).modify 10 fun
   |.cells _ t frozen=>.cells #[.iface 277 (.pointer (some ⟨Cm+8,0,none⟩))] t frozen
   |o=>o).modify 2 fun
   |.cells _ t frozen=>.cells #[.iface 277 (.pointer (some ⟨Cm+9,0,none⟩))] t frozen
   |o=>o).modify 3 fun
   |.cells _ t frozen=>.cells #[.iface 188 (.agg #[.pointer (some ⟨11,58,none⟩)])] t frozen
   |o=>o}
theorem iB_ (os:Os)(args:Array Value):laidMetH prog DN ((FG os).forCall (fun _ _=>0) ⟨#[],args,[]⟩).memory:=
 laidMetH_of_parts (laidMet_of_run (ps:=[.cell 0 0,.cell (Cm+0) 0,.cell 1 0,.cell (Cm+1) 0,.cell 4 0,.cell (Cm+2) 0,.cell 8 0,.cell (Cm+3) 0,.cell 9 0,.cell (Cm+4) 0,.cell 6 0,.cell (Cm+5) 0,.cell 5 0,.cell (Cm+6) 0,.cell 7 0,.cell (Cm+7) 0,.cell 10 0,.cell (Cm+8) 0,.cell 2 0,.cell (Cm+9) 0]) 8 (by kernel_rfl) (by kernel_rfl) (by kernel_rfl)) (by kernel_rfl)
end
section
open Go.RowKit Go.BigFrame _root_.Go.Proofs.Tryz
theorem HP {w:World}{a:Option Addr}{n:Nat}{l:List ByteArray}(h:AE scs 1 w a n l){k:Nat}(hk:k<n):∃ b o s,a=some ⟨b,o,none⟩∧l[k]?=some s∧w.cell? ⟨b,o+k,none⟩=some (.string s):=by
 have hl:k<l.length:=by rw[h.len];exact hk
 have hx:l[k]?=some l[k]:=by simp[hl]
 obtain⟨b,o,ha,hc⟩:=h.cell k _ hx
 exact⟨b,o,l[k],ha,hx,by have:=hc 0 _ rfl;simpa using this⟩
theorem Fu (a:Option Addr)(n cap:Nat)(w:World)(h:Ch w a n)(hn:n<=1048576) :
  Calls prog 18 #[.slice a n cap] w fun e w'=>e=.returned (.pointer (some ⟨w.heap.size,0,none⟩))∧Rd w' w.heap.size∧Below w.heap.size w w':=by
 go_enter func18,ntmps18
 go_wp2
 go_returns
 go_light
 refine ⟨rfl,⟨a,n,cap,0,_,Blk.new _ _ _,Zg _,hn,h.below (by go_grown),fun ad h0 hb=>?_⟩,by go_grown⟩
 obtain⟨b,o,v,ha,_,_,hc⟩:=h 0 h0
 rw[hb] at ha
 cases ha
 exact Yk w _ hc
end
section
open Go Go.RowKit Go.BigFrame _root_.Go.Proofs.Tryz
theorem Ef (p:Po)(vol f:ByteArray):∀ (l:List ByteArray) (acc:ByteArray),BF p vol (l++[f]) acc=(((BF p vol l acc++f)++nlB)++DE p vol f)++nlB
 |[],acc=>rfl
 |x::r,acc=>by rw[YF,BF,BF,Ef p vol f r]
theorem Gl {p:Po}{vol f:ByteArray}:(DE p vol f).size<=100:=by
 unfold DE Dj
 split
 ·exact Zg _
 ·rename_i ps hps
  split
  ·dsimp only
   cases hc:Aj ps p.ex with
   |none=>dsimp only[Option.getD];exact Zl (by rw[ByteArray.size_extract];show min _ 0-_<=0;omega) (Zg _)
   |some s=>
    dsimp only[Option.getD]
    have:=(Cp hc).2
    rw[ByteArray.size_extract];omega
  ·exact Zg _
theorem Ee {p:Po}{vol:ByteArray}{M:Nat}:∀ {l:List ByteArray} {acc:ByteArray},(∀ f∈l,f.size<=M)->(BF p vol l acc).size<=acc.size+l.length*(M+102)
 |[],acc,_=>by simp[BF]
 |x::r,acc,h=>by
  rw[BF]
  have h1:=Ee (p:=p) (vol:=vol) (l:=r) (acc:=(((acc++x)++nlB)++DE p vol x)++nlB) (fun f hf=>h f (ZY _ hf))
  have h2:=h x (by simp)
  have h3:=Gl (p:=p) (vol:=vol) (f:=x)
  have h4:nlB.size=1:=rfl
  simp only[ByteArray.size_append,h4] at h1
  rw[Zw,Yd]
  omega
theorem HT {p:Po}(hp:Ai p=true){k:Nat}{v:Vo}(hv:p.vs[k]?=some v):v.nm.size<=1048576:=by
 have h1:=(b0_ (bL_ hp).2.1 v (Zc hv)).2.1
 simp only[nameB,Zf,ZU] at h1
 omega
theorem AF.vsOf {B:Nat}{w:World}{p:Po}{ea va ra la:Option Addr}{en ec vn vc rn rc ln lc:Nat}(h:AF B w (.agg #[.int .i64 p.size,.int .i64 p.next,.slice ea en ec,.slice va vn vc,.slice ra rn rc,.slice la ln lc]) p):Ba B w va vn p.vs:=by
 obtain⟨_,_,_,_,_,_,_,_,_,_,_,_,hv,_,⟨h2,_⟩,_⟩:=h
 simp only[Value.agg.injEq,Array.mk.injEq,List.cons.injEq,Value.slice.injEq,and_true,true_and] at hv
 obtain⟨_,⟨rfl,rfl,_⟩,_,_⟩:=hv
 exact h2
theorem En {w:World}{b:Nat}{c0 c1 c2 c3 c4 c5:Value}{t:TypeId}(h:Blk w b #[c0,c1,c2,c3,c4,c5] t):w.cell? ⟨b,0,none⟩=some c0∧w.cell? ⟨b,1,none⟩=some c1∧w.cell? ⟨b,2,none⟩=some c2∧w.cell? ⟨b,3,none⟩=some c3∧w.cell? ⟨b,4,none⟩=some c4∧w.cell? ⟨b,5,none⟩=some c5:=⟨h.cell 0,h.cell 1,h.cell 2,h.cell 3,h.cell 4,h.cell 5⟩
theorem DM {a b:ByteArray}(h:(a++b).size<=1000000):¬ 9223372036854775807<a.size+b.size∧a.size<=1000000:=by
 rw[ByteArray.size_append] at h;omega
theorem EV {p:Po}{vol:ByteArray}{l:List ByteArray}(h:Ci p vol=some l):l.length<=5∧∀ f∈l,f.size<=8:=by
 unfold Ci at h
 split at h
 ·rename_i hp
  cases hi:volI p.vs vol with
  |none=>rw[hi] at h;cases h
  |some i=>
   rw[hi] at h;dsimp only[Option.bind] at h
   cases hv:p.vs[i]? with
   |none=>rw[hv] at h;cases h
   |some v=>
    rw[hv] at h
    have hl:v.its.map (·.nm)=l:=Zi h
    have h1:=(b0_ (bL_ hp).2.1 v (Zc hv)).1
    simp only[itemsB,Zf,ZU] at h1
    refine ⟨by rw[<-hl,List.length_map];exact h1.1,fun f hf=>?_⟩
    rw[<-hl] at hf
    obtain⟨x,hx,rfl⟩:=ZT.1 hf
    have:=hR_ h1.2 x hx
    simp only[nameB,Zf,ZU] at this
    omega
 ·cases h
theorem HR (B:Nat)(hB0:0<B)(v:Value)(p:Po)(vol:ByteArray)(w:World)(h:AF B w v p)(hd:AB p)(hvol:vol.size<=1048576) :
  Calls prog 10 #[v,.string vol] w fun e w'=>e=.returned (.string (CV p vol))∧Below w.heap.size w w':=by
 obtain⟨ea,en,ec,va,vn,vc,ra,rn,rc,la,ln,lc,rfl⟩:=h.cells
 have hR:Hid (CV p vol=match Ci p vol with | none=>⟨#[110,111,110,101]⟩ | some l=>BF p vol l ⟨#[]⟩):=by show _=_;rfl
 generalize CV p vol=R at *
 go_enter func10,ntmps10
 go_wp2_with fail
 have hA:Below w.heap.size w (w.alloc (.cells #[.int .i64 p.size,.int .i64 p.next,.slice ea en ec,.slice va vn vc,.slice ra rn rc,.slice la ln lc] 28)):=by go_grown
 have C0:=Blk.new w #[.int .i64 p.size,.int .i64 p.next,.slice ea en ec,.slice va vn vc,.slice ra rn rc,.slice la ln lc] 28
 have h0:=h.below hA
 generalize w.alloc (.cells #[.int .i64 p.size,.int .i64 p.next,.slice ea en ec,.slice va vn vc,.slice ra rn rc,.slice la ln lc] 28)=w1 at *
 refine (EE B _ p vol w1 h0 hd hvol).mono ?_
 rintro e w2 ⟨⟨a,n,cap,rfl,hn,RS⟩,hg⟩
 have C2:=C0.below hg
 have h2:=h0.below hg
 have hp:=Aa hA hg
 clear hA C0 h0 hg h
 cases hf:Ci p vol with
 |none=>
  rw[hf] at hR
  clear RS hf
  dsimp only[Option.isSome]
  go_wp2
  go_returns
  exact⟨by rw[hR.out];rfl,hp⟩
 |some l=>
  rw[hf] at hR RS
  have ht:=EV hf
  have hq:AE scs 1 w2 a n l:=RS.sl
  have hh:Hid (l.length=n):=hq.len
  clear hf RS
  dsimp only[Option.isSome]
  go_wp2_with fail
  go_loopw [7,8] (fun s ix wr=>∃ k:Nat,k<=n∧ix=.int .i64 k∧s=.string (BF p vol (l.take k) ⟨#[]⟩)∧Below w2.heap.size w2 wr) (fun _ ix _=>n-(intOf ix).toNat)
  case atStart=>exact⟨0,Zg _,rfl,rfl,Yg _ _⟩
  case round=>
   obtain⟨k,hk,rfl,rfl,hB⟩:=hrel
   by_cases hlt:k<n
   ·obtain⟨b,o,f,rfl,hx,hc⟩:=HP (hq.below hB) hlt
    have hl:Hid (BF p vol (l.take (k+1)) ⟨#[]⟩=(((BF p vol (l.take k) ⟨#[]⟩++f)++nlB)++DE p vol f)++nlB):=by
     show _=_
     rw[bx_ hx,Ef]
    have ha:(BF p vol (l.take (k+1)) ⟨#[]⟩).size<=1000000:=by
     have h5:=Ee (p:=p) (vol:=vol) (M:=8) (l:=l.take (k+1)) (acc:=⟨#[]⟩) (fun y hy=>ht.2 y (ZX hy))
     have h6:(l.take (k+1)).length<=5:=by rw[Zz];have:=ht.1;omega
     have h7:(⟨#[]⟩:ByteArray).size=0:=rfl
     have h8:(l.take (k+1)).length*(8+102)<=5*110:=Nat.mul_le_mul h6 (by omega)
     omega
    rw[hl.out] at ha
    obtain⟨S,hS⟩:∃ S,Hid (BF p vol (l.take k) ⟨#[]⟩=S):=⟨_,rfl⟩
    rw[hS.out] at ha ⊢
    obtain⟨T,hT⟩:∃ T,Hid (DE p vol f=T):=⟨_,rfl⟩
    rw[hT.out] at ha
    obtain⟨e4,ha⟩:=DM ha
    obtain⟨e3,ha⟩:=DM ha
    obtain⟨e2,ha⟩:=DM ha
    obtain⟨e1,ha⟩:=DM ha
    have hF:(k:Int)<n:=by omega
    have hE:(0:Int)<=k:=by omega
    have C3:=C2.below hB
    have h3:=h2.below hB
    obtain⟨N,hN⟩:∃ N,Hid ((Dx p vol f)=N):=⟨_,rfl⟩
    have kA:∀ u,Below wr.heap.size wr u->Calls prog 16 #[.agg #[.int .i64 p.size,.int .i64 p.next,.slice ea en ec,.slice va vn vc,.slice ra rn rc,.slice la ln lc],.string vol,.string f] u fun e w'=>e=.returned (.tuple #[.int .i64 N.1,.bool N.2])∧Below u.heap.size u w':=fun u hu=>by
     rw[<-hN.out];exact EX B _ p vol f u (h3.below hu) hd hvol
    obtain⟨z0,z1,z2,z3,z4,z5⟩:=En C3
    have g0:=Ae z0
    have g1:=Ae z1
    have g2:=Ae z2
    have g3:=Ae z3
    have g4:=Ae z4
    have g5:=Ae z5
    have g6:=Ae hc
    have hj:=aA_ wr
    go_wp2_with fail
    refine ab_ (by kernel_rfl) (by kernel_rfl) ?_
    repeat (go_big_quiet_step (first | (go_at_call 16;exact an_ (kA _ (Grw.h _)))))
    refine wpQuiet_nil ?_
    intro w4 hv
    have hb:=ah_ hv
    clear hv g0 g1 g2 g3 g4 g5 g6 hj kA
    have hC:=hb
    have C4:=C3.below hb
    have h4:=h3.below hb
    have hr:=Ab hb hc
    have hG:=hb.size
    have kB:∀ u,Below w4.heap.size w4 u->Calls prog 28 #[.agg #[.int .i64 p.size,.int .i64 p.next,.slice ea en ec,.slice va vn vc,.slice ra rn rc,.slice la ln lc],.string vol,.string f,.int .i64 0,.int .i64 N.1] u fun e w'=>e=.returned (.tuple #[.string T,.bool (Dj p vol f 0 N.1).2])∧Below u.heap.size u w':=fun u hu=>by
     have:=EW B hB0 _ p vol f 0 N.1 u (h4.below hu) hd hvol
     have e0:(Dj p vol f 0 N.1).1=T:=by rw[<-hN.out];exact hT.out
     rw[e0] at this;exact this
    clear z0 z1 z2 z3 z4 z5 C3 h3 hc
    obtain⟨z0,z1,z2,z3,z4,z5⟩:=En C4
    have g0:=Ae z0
    have g1:=Ae z1
    have g2:=Ae z2
    have g3:=Ae z3
    have g4:=Ae z4
    have g5:=Ae z5
    have g6:=Ae hr
    have hj:=aA_ w4
    go_wp2_with fail
    refine ab_ (by kernel_rfl) (by kernel_rfl) ?_
    repeat (go_big_quiet_step (first | (go_at_call 28;exact an_ (kB _ (Grw.h _)))))
    refine wpQuiet_nil ?_
    intro w5 hw
    have ho:=ah_ hw
    clear hw g0 g1 g2 g3 g4 g5 g6 hj kB z0 z1 z2 z3 z4 z5
    have hD:=Ab ho hr
    have hz:=Aa (Aa hB hb) ho
    have hs:nlB=⟨#[10]⟩:=rfl
    rw[hs] at e2 e3 e4
    have hm:Hid (BF p vol (l.take (k+1)) ⟨#[]⟩=(((S++f)++⟨#[10]⟩)++T)++⟨#[10]⟩):=by
     show _=_
     rw[hl.out,hS.out,hT.out];rfl
    clear hl hS hT hN hs
    go_wp2
    go_roundw
    case rel=>exact⟨k+1,by omega,by go_num,by rw[hm.out],hz⟩
    case measure=>simp[intOf];omega
   ·obtain rfl:k=n:=by omega
    have he:l.take k=l:=Zk (by rw[hh.out];exact Zd _)
    rw[he]
    clear he
    go_wp2
    go_returns
    exact⟨by rw[hR.out];rfl,Aa hp hB⟩
end
end Go.Proofs.YtdmeabghpchckaaGreatDoor
namespace Go.Proofs.YtdmeabghpchckaaGreatDoor
section
open Go Go.RowKit Go.BigFrame _root_.Go.Proofs.Tryz
variable{B n:Nat}{a:Option Addr}{p:Po}{v:Value}{w:World}
theorem Dc.t (h:Dc B w v p):Al B w v p:=by
 obtain⟨rows,h⟩:=h;exact h.t
structure IQ where
 nm:ByteArray
 a:Option Addr
 n:Nat
 c:Nat
end
section
open Go Go.RowKit Go.BigFrame _root_.Go.Proofs.Tryz
variable{n:Nat}{a:Option Addr}
variable{irs:List IQ}
structure VQ where
 id:Int
 nm:ByteArray
 fx:Bool
 a:Option Addr
 n:Nat
 c:Nat
 irs:List IQ
end
section
open Go Go.RowKit Go.BigFrame _root_.Go.Proofs.Tryz
variable{α:Type}{ad:Addr}{L:List Nat}{B b i n:Nat}{a:Option Addr}{v:Value}{w w':World}{l:List α}
variable{x:IQ}
def IQ.cs (x:IQ):List Value:=[.string x.nm,.slice x.a x.n x.c]
def VQ.cs (x:VQ):List Value:=[.int .i64 x.id,.string x.nm,.bool x.fx,.slice x.a x.n x.c]
theorem Chg.blk {t:TypeId}(h:Chg L w w'){c:Array Value}(hc:Blk w b c t)(hb:b∉L):Blk w' b c t:=(h.block b hc.lt hb).trans hc
end
end Go.Proofs.YtdmeabghpchckaaGreatDoor
