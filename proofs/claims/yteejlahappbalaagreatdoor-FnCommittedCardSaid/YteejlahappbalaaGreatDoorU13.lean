/- The laws' marks in a pool: cells of the same kinds, the slices as they were, nothing else turned. -/
import Derived.Deep.DeepCutAuto
import Derived.Test.YteejlahappbalaaGreatDoorU08
import Derived.Test.YteejlahappbalaaGreatDoorU12
set_option maxHeartbeats 20000000
set_option maxRecDepth 100000
namespace Go.Proofs.YteejlahappbalaaGreatDoor
section
open Go Go.RowKit Go.BigFrame Tryz
variable{p:Po}
theorem rk{p:Prop}(h:p:=by have:=qe.size;simp at this;omega):p:=h
end
section
open Go Go.RowKit Go.BigFrame Tryz
variable{α:Type}{K:Act->World->Prop}{x:Ct}{Q:Exit->Act->World->Prop}{l:List Ct}{m n size:Nat}{o:Oper}{P:Program}{a b w w':World}{cs:α->List Value}
theorem mh_ {v v':Value}(base:Nat)(t ty e:TypeId)(i:TypeInfo)(z:Value)(size bytes:Nat)(ht:P.underlying t=some (.slice e))(hi:P.info? e=some i)(hz:i.zero=some z)
  (hsize:i.size=size)(hby:i.bytes=bytes)(n:Nat)(xs:List Value)(ha:w.ownsRow base e size v n xs)
  (a:Addr)(m c:Nat)(news:List Value)(hl:news.length=m*size)(hnews:∀ j u,news[j]?=some u->w.cell? (a.add j)=some u)(h1:∀ u∈news,u.oneCell'=true)
  (h63:n+m<=maxLen)(hbytes:(n+m)*bytes<=140737488355328)(hr:(Builtin.append_ #[t,t] ty #[v,.slice (some a) m c]).run P w=.ok v' w')(hnil:v'=.slice none 0 0↔v=.slice none 0 0∧m=0):
  ∀ g,v'.ownBlock=some g->v.ownBlock=some g∨w.heap.size<=g:=by
 by_cases hm:0<m
 ·exact iD_ base t ty e i z size bytes ht hi hz hsize hby n xs ha a m c news hm hl hnews h1 h63 hbytes hr
 ·obtain rfl:m=0:=sH;subst hsize;intro g' hc;rcases ha.2 with⟨rfl,rfl⟩ | ⟨g,cap,cur,rfl,hj,hg,hn,hk,hh,hf⟩
  ·rw[hnil.2 ⟨rfl,rfl⟩] at hc;simp[Value.ownBlock] at hc
  ·have hb:n*i.size+news.length<=cur.size:=by rw[hl,hh,<-Yd];exact ZS _ sH
   have he:=run_append_room (P:=P) w t ty e i ht hi g n cap cur hg a 0 c news hl hnews h1 sH hb;rw[hr] at he
   cases he;left;simpa[Value.ownBlock] using hc
theorem mX_ {a:Act}
  (s x:Operand)(t:TypeId)(ho:o.op=.call {callee:=.builtin .append,args:=#[s,x],argTypes:=#[t,t]})
  (B:Nat)(e:TypeId)(i:TypeInfo)(z:Value)(bytes:Nat)(ht:P.underlying t=some (.slice e))(hi:P.info? e=some i)(hz:i.zero=some z)(hsize:i.size=size)(hby:i.bytes=bytes)(hzs:z.cells.size=size)(hpos:0<size)
  (hsz:∀ y,(cs y).length=size)(hone:∀ (l:List α),∀ u∈l.flatMap cs,u.oneCell'=true)
  (da:Option Addr)(dn dcap:Nat)(ld:List α)(hs:a.eval s=.slice da dn dcap)(hd:Ac cs size e w B da dn dcap ld)
  (sa:Option Addr)(sn scap:Nat)(ls:List α)(hx:a.eval x=.slice sa sn scap)(hsrc:AH cs size w sa sn ls)(hspot:∀ ad,sa=some ad->ad.spot=none)(hnone:sa=none->scap=0)
  (tot:Nat)(htot:dn+sn=tot)(h63:tot<=maxLen)(hbytes:tot*bytes<=140737488355328)(hbase:B<=w.heap.size)
  (h:∀ a' cap' w',Ac cs size e w' B a' tot cap' (ld++ls)->w.grownBy w' (Value.ownBlock (.slice da dn dcap))->(∀ ad',a'=some ad'->(∃ ad,da=some ad∧ad.block=ad'.block)∨w.heap.size<=ad'.block)->K (a.put o.dst (.slice a' tot cap')) w'):o.wp P a w K Q:=by
 subst htot;have ha:=hd.row hsz;have qg:(ld++ls).length=dn+sn:=oN
 cases sa with
 |none=>
  have h0:sn=0:=by
   exact mm
  obtain rfl:=h0;obtain rfl:=hnone rfl;have hh:ls=[]:=Zt hsrc.len;subst hh;have he:=run_append_owned_none (P:=P) w B t o.type e i size ht hi (.slice da dn dcap) dn (ld.flatMap cs) ha;unfold Oper.wp;simp[execOp,ho,resolve,invoke,builtin,hs,hx,he,Result.andThen];exact h da dcap w (by simpa using hd) (Yh _ _) (fun ad' ky=>.inl ⟨ad',ky,rfl⟩)
 |some ad=>
  obtain⟨b,off,spot⟩:=ad;have:=hspot _ rfl;simp only at this;subst this;have hf:(ls.flatMap cs).length=sn*size:=oh;obtain⟨v',w',hr,zT,hg,hc⟩:=run_append_own (P:=P) w B t o.type e i z size bytes ht hi hz hsize hby hzs hpos (.slice da dn dcap) dn (ld.flatMap cs) ha ⟨b,off,none⟩ sn scap (ls.flatMap cs) hf (AH.src hsz hsrc) (hone ls) h63 hbytes hbase;have jE:=mh_ (P:=P) B t o.type e i z size bytes ht hi hz hsize hby dn (ld.flatMap cs) ha ⟨b,off,none⟩ sn scap (ls.flatMap cs) hf (AH.src hsz hsrc) (hone ls) h63 hbytes hr hc;exact mf
end
section
open Go Go.RowKit Go.BigFrame Tryz
variable{α:Type}{c:Array Value}{d:ByteArray}{B b j n:Nat}{a:Option Addr}{p:Po}{v x:Value}{w w' w1:World}{l:List α}
theorem aW_ (B0:Nat)(hB0:0<B0)(v:Value)(p:Po)(w:World)(h:AC B0 w v p)(hd:A7 p):
  Calls prog 164 #[v] w fun e w'=>(∃ v',e=.returned v'∧AM w.heap.size w' v' p∧NnE v')∧Below w.heap.size w w':=by
 obtain⟨ea,en,ec,va,vn,vc,ra,rn,rc,la,ln,lc,rfl,⟨h1,k1⟩,⟨h2,k2⟩,⟨h3,k3⟩,h4,k4⟩:=h;obtain⟨z1,z2,z3,z4,z5,z6,z7,z8⟩:=hd;rw[h1.len] at z1;rw[h2.len] at z3;rw[h3.len] at z5;rw[h4.len] at z7;obtain⟨size,next,ex,vs,rf,lt⟩:=p;simp only at h1 h2 h3 h4 z2 z4 z6 z8;go_enter func164,ntmps164;go_wp2_with fail;have C:=(Blk.new w #[.int .i64 size,.int .i64 next,.slice ea en ec,.slice va vn vc,.slice ra rn rc,.slice la ln lc] 33).alloc (.cells #[.int .i64 0,.int .i64 0,.slice none 0 0,.slice none 0 0,.slice none 0 0,.slice none 0 0] 33);have D:Blk ((w.alloc (.cells #[.int .i64 size,.int .i64 next,.slice ea en ec,.slice va vn vc,.slice ra rn rc,.slice la ln lc] 33)).alloc (.cells #[.int .i64 0,.int .i64 0,.slice none 0 0,.slice none 0 0,.slice none 0 0,.slice none 0 0] 33)) (w.heap.size+1) _ _:=Blk.new' _ _ _ _ sK;have hz:Below w.heap.size w ((w.alloc (.cells #[.int .i64 size,.int .i64 next,.slice ea en ec,.slice va vn vc,.slice ra rn rc,.slice la ln lc] 33)).alloc (.cells #[.int .i64 0,.int .i64 0,.slice none 0 0,.slice none 0 0,.slice none 0 0,.slice none 0 0] 33)):=sM;have zi:((w.alloc (.cells #[.int .i64 size,.int .i64 next,.slice ea en ec,.slice va vn vc,.slice ra rn rc,.slice la ln lc] 33)).alloc (.cells #[.int .i64 0,.int .i64 0,.slice none 0 0,.slice none 0 0,.slice none 0 0,.slice none 0 0] 33)).heap.size=w.heap.size+2:=sK;generalize (w.alloc (.cells #[.int .i64 size,.int .i64 next,.slice ea en ec,.slice va vn vc,.slice ra rn rc,.slice la ln lc] 33)).alloc (.cells #[.int .i64 0,.int .i64 0,.slice none 0 0,.slice none 0 0,.slice none 0 0,.slice none 0 0] 33)=W at *;obtain⟨c0,c1,c2,c3,c4,c5⟩:=C.six';have hl:∀ u,Below W.heap.size W u->(fun u=>u.cell? ⟨w.heap.size,0,none⟩=some (.int .i64 size)∧u.cell? ⟨w.heap.size,1,none⟩=some (.int .i64 next)∧u.cell? ⟨w.heap.size,2,none⟩=some (.slice ea en ec)∧u.cell? ⟨w.heap.size,4,none⟩=some (.slice ra rn rc)∧u.cell? ⟨w.heap.size,5,none⟩=some (.slice la ln lc)) u:=fun u hu=>⟨Ab hu c0,Ab hu c1,Ab hu c2,Ab hu c4,Ab hu c5⟩;have hM:Below W.heap.size W W.drew:=(Yg _ _).drew;have hT:=hl W.drew hM;refine ar_ (S:=(fun u=>u.cell? ⟨w.heap.size,0,none⟩=some (.int .i64 size)∧u.cell? ⟨w.heap.size,1,none⟩=some (.int .i64 next)∧u.cell? ⟨w.heap.size,2,none⟩=some (.slice ea en ec)∧u.cell? ⟨w.heap.size,4,none⟩=some (.slice ra rn rc)∧u.cell? ⟨w.heap.size,5,none⟩=some (.slice la ln lc))) 18 sI sI ?_;refine tk 0 ?_;refine tk 1 ?_;refine tk 2 ?_;refine tk 3 ?_;refine tk 5 ?_;refine tk 6 ?_;refine tk 9 ?_;refine tk 10 ?_;refine tk 13 ?_;refine tk 14 ?_;refine kr_ (F:=(fun a0=>a0.tmps.size=41∧a0.eval (.tmp 6)=.int .i64 size∧a0.eval (.tmp 8)=.int .i64 next∧a0.eval (.tmp 11)=.slice ea en ec∧a0.eval (.tmp 15)=.slice ra rn rc∧a0.eval (.tmp 19)=.slice la ln lc)) (I:=(fun a0 L a u=>∃ (b4 b7 b8 b11 b12 b15 b16 b17:Bool) (x9 x12 x13 x16 x17 x20 x21 x3:Value),L=#[true,true,true,true,b4,true,true,b7,b8,true,true,b11,b12,true,true,b15,b16,b17,true]∧a=Bg a0 x9 x12 x13 x16 x17 x20 x21 x3∧Below W.heap.size W u∧(b4=true->Of (w.heap.size+2) 111 u x9)∧(b7=true->Og Ex.cs 2 111 (w.heap.size+2) en ex u x12)∧(b8=true->Of (w.heap.size+2) 70 u x13)∧(b11=true->Og Ct.cs 4 70 (w.heap.size+2) rn rf u x16)∧(b12=true->Of (w.heap.size+2) 70 u x17)∧(b15=true->b11=true∧Og Ct.cs 4 70 (w.heap.size+2) ln lt u x20∧UI x16 x20)∧(b16=true->b7=true∧b11=true∧b15=true∧x21=.agg #[.int .i64 size,.int .i64 next,x12,.slice none 0 0,x16,x20])∧(b17=true->RF (w.heap.size+2) 33 #[.int .i64 0,.int .i64 0,.slice none 0 0,.slice none 0 0,.slice none 0 0,.slice none 0 0] u x3))) ?fr ?step ?done ?sz ?cnt ?init
 case fr=>exact⟨rfl,rfl,rfl,rfl,rfl,rfl⟩
 case sz=>(rintro L a u ⟨b4,b7,b8,b11,b12,b15,b16,b17,x9,x12,x13,x16,x17,x20,x21,x3,rfl,_⟩;rfl)
 case cnt=>exact Zm sI
 case init=>exact⟨false,false,false,false,false,false,false,false,undef,undef,undef,undef,undef,undef,undef,undef,sI,sI,hM,(fun h=>by cases h),(fun h=>by cases h),(fun h=>by cases h),(fun h=>by cases h),(fun h=>by cases h),(fun h=>by cases h),(fun h=>by cases h),(fun h=>by cases h)⟩
 case done=>
  rintro L a u ⟨b4,b7,b8,b11,b12,b15,b16,b17,x9,x12,x13,x16,x17,x20,x21,x3,rfl,rfl,ha,t4,t7,t8,t11,t12,t15,t16,t17⟩ hr;have q4:b4=true:=bX_ (k:=4) hr rfl (fun e he _=>by simp at he);subst q4;have q7:b7=true:=bX_ (k:=7) hr rfl (fun e he _=>by simp at he;rcases he with rfl | rfl<;>rfl);subst q7;have q8:b8=true:=bX_ (k:=8) hr rfl (fun e he _=>by simp at he);subst q8;have qq:b11=true:=bX_ (k:=11) hr rfl (fun e he _=>by simp at he;rcases he with rfl | rfl | rfl<;>rfl);subst qq;have qr:b12=true:=bX_ (k:=12) hr rfl (fun e he _=>by simp at he);subst qr;have qs:b15=true:=bX_ (k:=15) hr rfl (fun e he _=>by simp at he;rcases he with rfl | rfl | rfl<;>rfl);subst qs;have q0:b16=true:=bX_ (k:=16) hr rfl (fun e he _=>by simp at he;rcases he with rfl | rfl | rfl | rfl | rfl<;>rfl);subst q0;have q9:b17=true:=bX_ (k:=17) hr rfl (fun e he _=>by simp at he);subst q9;clear hr;obtain⟨ea',ec',rfl,R1,h8⟩:=t7 rfl;obtain⟨ra',rc',rfl,R3,_⟩:=t11 rfl;obtain⟨_,⟨la',lc',rfl,R4,_⟩,sep⟩:=t15 rfl;obtain⟨_,_,_,rfl⟩:=t16 rfl;obtain⟨ob,rfl,Ob,h9⟩:=t17 rfl;clear t4 t7 t8 t11 t12 t15 t16 t17;refine lastL rfl ?_;simp only[Bg,Act.put,Yj,Yq,Yr];obtain⟨o0,o1,o2,o3,o4,o5⟩:=Ob.six';obtain⟨f0,f1,f2,f3,f4,f5⟩:=fz6 Ob;obtain⟨U,hU,O1,hn⟩:=IS Ob (.int .i64 size) (.int .i64 next) (.slice ea' en ec') (.slice none 0 0) (.slice ra' rn rc') (.slice la' ln lc');have hC:Hid (U=_):=hU;clear hU;have ht:∀ j,some ob=some j->w.heap.size+2<=j:=fun j e=>by cases e;exact h9
  have C1:=(C.below ha).offB hn ht sH;have D1:=(D.below ha).offB hn ht sH;have Q1:=R1.ty hn (aa_ Ob) sJ;have Q3:=R3.ty hn (aa_ Ob) sJ;have Q4:=R4.ty hn (aa_ Ob) sJ;have hS:=Yi (Aa hz ha) hn (Aa hz ha).size (fun j e=>by have:=ht j e;omega);have zz:=hn.size;have qf:=ha.size;go_wp2_with fail;rw[<-hC.out];clear hC;have hO:Hid (vs.length=vn):=h2.len;clear o0 o1 o2 o3 o4 o5 f0 f1 f2 f3 f4 f5 Ob hn R1 R3 R4 c0 c1 c2 c3 c4 c5 hl hT hM C D;go_loopw [4] (fun ix wr=>∃ (k:Nat) (a2:Option Addr) (cap2:Nat) (rows:List VR),k<=vn∧ix=.int .i64 k∧Blk wr w.heap.size #[.int .i64 size,.int .i64 next,.slice ea en ec,.slice va vn vc,.slice ra rn rc,.slice la ln lc] 33∧Blk wr (w.heap.size+1) #[.int .i64 0,.int .i64 0,.slice none 0 0,.slice none 0 0,.slice none 0 0,.slice none 0 0] 33∧Blk wr ob #[.int .i64 size,.int .i64 next,.slice ea' en ec',.slice a2 k cap2,.slice ra' rn rc',.slice la' ln lc'] 33∧Ac Ex.cs 2 111 wr (w.heap.size+2) ea' en ec' ex∧Ac Ct.cs 4 70 wr (w.heap.size+2) ra' rn rc' rf∧Ac Ct.cs 4 70 wr (w.heap.size+2) la' ln lc' lt∧Ac vrs 4 115 wr (w.heap.size+2) a2 k cap2 rows∧Bc (w.heap.size+2) wr rows (vs.take k)∧w.heap.size+2<=wr.heap.size∧Below w.heap.size w wr) (fun ix _=>vn-(intOf ix).toNat)
  case atStart=>exact⟨0,none,0,[],Zg _,rfl,C1,D1,O1,Q1,Q3,Q4,aB_,by simpa using Bc.nil _ _,sH,hS⟩
  case round=>
   clear C1 D1 O1 Q1 Q3 Q4 hS;obtain⟨k,a2,cap2,rows,hk,rfl,C,D,O,Q1,Q3,Q4,RV,TV,z0,hB⟩:=hrel;have c3:wr.cell? ⟨w.heap.size,3,none⟩=some (.slice va vn vc):=C.cell 3;have o3:wr.cell? ⟨ob,3,none⟩=some (.slice a2 k cap2):=O.cell 3;by_cases hlt:k<vn
   ·obtain⟨b,o,x,qa,qn,qc,rfl,hx,e0,e1,e2,e3,hI,hh,_⟩:=b5_ (h2.below hB) hlt;obtain⟨m1,m2,m3⟩:=z4 x (Zc hx);rw[hI.len] at m2;have hZ:b<w.heap.size:=by
     obtain⟨b',o',_,_,_,_,qW,_,g0,_⟩:=b5_ h2 hlt;obtain⟨rfl,rfl⟩:b=b'∧o=o':=rE;exact Yk w _ g0
    have qi:Hid (vs.take (k+1)=vs.take k++[x]):=bx_ hx;clear hx;have zb:(k:Int)<vn:=sH;have zc:(0:Int)<=k:=sH;go_wp2_with fail;have hl:∀ u,Below wr.heap.size wr u->(fun u=>u.cell? ⟨w.heap.size,3,none⟩=some (.slice (some ⟨b,o,none⟩) vn vc)∧u.cell? ⟨ob,3,none⟩=some (.slice a2 k cap2)∧u.cell? ⟨b,o+k*4,none⟩=some (.int .i64 x.id)∧u.cell? ⟨b,o+k*4+1,none⟩=some (.string x.nm)∧u.cell? ⟨b,o+k*4+2,none⟩=some (.bool x.fx)∧u.cell? ⟨b,o+k*4+3,none⟩=some (.slice qa qn qc)) u:=fun u hu=>⟨Ab hu c3,Ab hu o3,Ab hu e0,Ab hu e1,Ab hu e2,Ab hu e3⟩;have hT:=hl wr.drew ((Yg _ _).drew);refine ar_ (S:=(fun u=>u.cell? ⟨w.heap.size,3,none⟩=some (.slice (some ⟨b,o,none⟩) vn vc)∧u.cell? ⟨ob,3,none⟩=some (.slice a2 k cap2)∧u.cell? ⟨b,o+k*4,none⟩=some (.int .i64 x.id)∧u.cell? ⟨b,o+k*4+1,none⟩=some (.string x.nm)∧u.cell? ⟨b,o+k*4+2,none⟩=some (.bool x.fx)∧u.cell? ⟨b,o+k*4+3,none⟩=some (.slice qa qn qc))) 11 sI sI ?_;refine tk 0 ?_;refine tk 1 ?_;refine tk 2 ?_;refine tk 3 ?_;refine tk 4 ?_;refine tk 5 ?_;refine tk 6 ?_;refine Ag (i:=7) sI rfl (fun K hK=>?_);go_simp;refine (eq_ B0 hB0 x.id x.nm x.fx x.its qa qn qc _ (hI.below ((Yg _ _).drew)) m2 (fun y hy=>(m3 y hy).2)).mono ?_;rintro e w1 ⟨⟨pa,pc,irows,rfl,RI,TI⟩,hL⟩;have hH:Below wr.heap.size wr w1:=Aa ((Yg _ _).drew) hL;have qb:=hH.size;dsimp only;refine hK.out _ _ (hl _ hH) (fun hHeld=>?_);clear hK K;(try simp only[Act.put,lsA,lsB,lsC]);refine Ag (i:=8) sI rfl (fun K hK=>?_);go_simp;refine hK.out _ _ (hl _ (Aa hH sM)) (fun hHeld=>?_);clear hK K;(try simp only[Act.put,lsA,lsB,lsC]);refine Ag (i:=9) sI rfl (fun K hK=>?_);have qt:Below wr.heap.size wr (w1.alloc (.cells #[.int .i64 x.id,.string x.nm,.bool x.fx,.slice pa qn pc] 115)):=Aa hH sM;refine aJ_ rfl (dC_ _ _ rfl (w.heap.size+2) a2 k cap2 rows rfl (RV.below qt) _ 1 1 [(⟨x.id,x.nm,x.fx,pa,qn,pc⟩:VR)] rfl (fQ_ _ (⟨x.id,x.nm,x.fx,pa,qn,pc⟩:VR) _ _ sK) (fun ad h=>sV) (fun h=>sY) (k+1) rfl sH ro ?_);intro a4 cap4 w4 R4 hg;have hs:∀ j,Value.ownBlock (.slice a2 k cap2)=some j->w.heap.size+2<=j:=aG_ fun ad hm=>(RV.block ad hm).1;have hj:=(RV.below qt).rowTy (m:=k) (k:=cap2);have C4:=(C.below qt).offB hg hs sH;have D4:=(D.below qt).offB hg hs sH;have O4:=(O.below qt).ty hg hj sJ;have hJ:b<w.heap.size+2:=sH;have g0:=hg.cell (a:=⟨b,o+k*4,none⟩) (Ab qt e0) (at_ (fun ad hm=>(RV.block ad hm).1) hJ);have g1:=hg.cell (a:=⟨b,o+k*4+1,none⟩) (Ab qt e1) (at_ (fun ad hm=>(RV.block ad hm).1) hJ);have g2:=hg.cell (a:=⟨b,o+k*4+2,none⟩) (Ab qt e2) (at_ (fun ad hm=>(RV.block ad hm).1) hJ);have g3:=hg.cell (a:=⟨b,o+k*4+3,none⟩) (Ab qt e3) (at_ (fun ad hm=>(RV.block ad hm).1) hJ);refine hK.out _ _ ⟨C4.cell 3,O4.cell 3,g0,g1,g2,g3⟩ (fun hHeld=>?_);clear hK K;(try simp only[Act.put,lsA,lsB,lsC]);refine tk 10 ?_;refine wpAnyH_done sI ?_ _;refine lastL rfl ?_;have y4:w4.cell? ⟨ob,3,none⟩=some (.slice a2 k cap2):=O4.cell 3;have f4:w4.frozen? ⟨ob,3,none⟩=false:=O4.frozen 3;go_wp2;go_roundw
    case rel=>
     have hw:=CE w4 ob 3 (.slice a4 (k+1) cap4);have zn:=hB.size;have zl:=hg.size;have zm:=hw.size;have zv:=qt.size;have hG:=aa_ O4;refine⟨k+1,a4,cap4,rows++[⟨x.id,x.nm,x.fx,pa,qn,pc⟩],sH,sQ,C4.other _ _ rK,D4.other _ _ rK,by simpa using O4.set 3 (.slice a4 (k+1) cap4),((Q1.below qt).ty hg hj sJ).ty hw hG sJ,((Q3.below qt).ty hg hj sJ).ty hw hG sJ,((Q4.below qt).ty hg hj sJ).ty hw hG sJ,R4.ty hw hG sJ,?_,sH,?_⟩
     ·rw[qi.out];have V4:Et (w.heap.size+2) w4 ⟨x.id,x.nm,x.fx,pa,qn,pc⟩ x:=⟨rfl,rfl,rfl,irows,((RI.alloc _).ty hg hj sJ).mono (by simp only[World.size_drew] at *;omega),((TI.below sM).ty hg hj sJ).mono (by simp only[World.size_drew] at *;omega)⟩;exact (((TV.below qt).ty hg hj sJ sJ).snoc V4).ty hw hG sJ sJ
     ·exact Below.setCell (Yi (Aa hB qt) hg sH (fun j e=>by have:=hs j e;omega)) (by simp only;omega) _
    case measure=>simp[intOf];omega
   ·obtain rfl:k=vn:=sH;obtain⟨y0,y1,y2,y3,y4,y5⟩:=O.six';obtain⟨x0,x1,x2,x3,x4,x5⟩:=D.six';obtain⟨f0,f1,f2,f3,f4,f5⟩:=fz6 D;go_wp2;obtain⟨W8,hC,W0,hv⟩:=IS D (.int .i64 size) (.int .i64 next) (.slice ea' en ec') (.slice a2 k cap2) (.slice ra' rn rc') (.slice la' ln lc');have hF:=aa_ D;have P1:=Q1.ty hv hF sJ;have P3:=Q3.ty hv hF sJ;have P4:=Q4.ty hv hF sJ;have PV:=RV.ty hv hF sJ;have PT:=TV.ty hv hF sJ sJ;have PB:=hB.grown hv hB.size (fun j e=>by cases e;omega);rw[<-hC];clear hC;refine YW (results_cell_row rfl _ W8 (w.heap.size+1) _ _ _ _ rfl W0 underlying33 rfl sI) rfl ?_;rw[Zk (Zm hO.out)] at PT;exact⟨⟨_,rfl,⟨ea',en,ec',a2,k,cap2,ra',rn,rc',la',ln,lc',rows,rfl,P1.mono sH,⟨PV.mono sH,PT.mono sH⟩,P3.mono sH,P4.mono sH,fun p q ep eq hp hq=>sep _ _ _ _ _ _ rfl rfl p q ep eq hp hq⟩,fun _ _ _ _ _ _ _ _ e=>by cases e;exact h8⟩,PB⟩
 case step=>
  rintro a0 ⟨fsz,f6,f8,f11,f15,f19⟩;rintro L a u i ⟨b4,b7,b8,b11,b12,b15,b16,b17,x9,x12,x13,x16,x17,x20,x21,x3,rfl,rfl,ha,t4,t7,t8,t11,t12,t15,t16,t17⟩ hi;obtain⟨h0,o,ho,hf⟩:=mem_ready.1 hi;have h6:i<19:=(ZG.1 ho).1;have qf:=ha.size;clear hi;obtain⟨i0,hV,hW,hX,hY⟩:=info_parts JM;obtain⟨i1,h7,ql,qm,qp⟩:=info_parts Qi;obtain rfl | rfl | rfl | rfl | rfl | rfl | rfl | rfl | rfl | rfl | rfl | rfl | rfl | rfl | rfl | rfl | rfl | rfl | rfl:i=0∨i=1∨i=2∨i=3∨i=4∨i=5∨i=6∨i=7∨i=8∨i=9∨i=10∨i=11∨i=12∨i=13∨i=14∨i=15∨i=16∨i=17∨i=18:=sH
  ·cases h0
  ·cases h0
  ·cases h0
  ·cases h0
  ·have hb:b4=false:=h0;subst hb;simp only[Yp,Yt,Yo,Zo] at ho;subst ho;refine cL_ rfl rfl (fun K hK=>?_);go_simp;refine hK.out _ _ ⟨hl _ (Aa ha sM),?_⟩;exact⟨true,b7,b8,b11,b12,b15,b16,b17,_,x12,x13,x16,x17,x20,x21,x3,rfl,pW_ a0 x9 x12 x13 x16 x17 x20 x21 x3 _,Aa ha sM,fun _=>⟨_,rfl,Blk.new _ _ _,sH⟩,fun h=>(t7 h).below sM,fun h=>(t8 h).below sM,fun h=>(t11 h).below sM,fun h=>(t12 h).below sM,fun h=>⟨(t15 h).1,(t15 h).2.1.below sM,(t15 h).2.2⟩,t16,fun h=>(t17 h).below sM⟩
  ·cases h0
  ·cases h0
  ·have hb:b7=false:=h0;subst hb;simp only[Yp,Yt,Yo,Zo] at ho;subst ho;have d4:b4=true:=hf ⟨4,.data⟩ sK rfl;have es:=(oi_ a0 x9 x12 x13 x16 x17 x20 x21 x3).trans f11;have el:=pr_ fsz x9 x12 x13 x16 x17 x20 x21 x3;obtain⟨lb,hD,lblk,lge⟩:=t4 d4;replace el:=el.trans hD;refine cL_ rfl rfl (fun K hK=>?_);refine eQ_ _ _ 29 rfl (w.heap.size+2) 111 i1 (.agg #[.int .i64 0,.string .empty]) 24 underlying29 h7 ql qm qp rfl sJ aK_ aU_ lb el lblk lge ea en ec ex es (h1.below (Aa hz ha)) (k1.1.2.2 hB0).2 (k1.1.2.2 hB0).1 sO sH sH ?_;intro a1 cap1 u1 R1 hc hE hN;dsimp only;refine hK.out _ _ ⟨hl _ (Aa ha hc),?_⟩;exact⟨b4,true,b8,b11,b12,b15,b16,b17,x9,_,x13,x16,x17,x20,x21,x3,rfl,ps_ a0 x9 x12 x13 x16 x17 x20 x21 x3 _,Aa ha hc,fun h=>(t4 h).below hc,fun _=>⟨_,_,rfl,R1,hE⟩,fun h=>(t8 h).below hc,fun h=>(t11 h).below hc,fun h=>(t12 h).below hc,fun h=>⟨(t15 h).1,(t15 h).2.1.below hc,(t15 h).2.2⟩,fun h=>absurd (t16 h).1 sK,fun h=>(t17 h).below hc⟩
  ·have hb:b8=false:=h0;subst hb;simp only[Yp,Yt,Yo,Zo] at ho;subst ho;refine cL_ rfl rfl (fun K hK=>?_);go_simp;refine hK.out _ _ ⟨hl _ (Aa ha sM),?_⟩;exact⟨b4,b7,true,b11,b12,b15,b16,b17,x9,x12,_,x16,x17,x20,x21,x3,rfl,pt_ a0 x9 x12 x13 x16 x17 x20 x21 x3 _,Aa ha sM,fun h=>(t4 h).below sM,fun h=>(t7 h).below sM,fun _=>⟨_,rfl,Blk.new _ _ _,sH⟩,fun h=>(t11 h).below sM,fun h=>(t12 h).below sM,fun h=>⟨(t15 h).1,(t15 h).2.1.below sM,(t15 h).2.2⟩,t16,fun h=>(t17 h).below sM⟩
  ·cases h0
  ·cases h0
  ·have hb:b11=false:=h0;subst hb;simp only[Yp,Yt,Yo,Zo] at ho;subst ho;have d8:b8=true:=hf ⟨8,.data⟩ sK rfl;have es:=(oj_ a0 x9 x12 x13 x16 x17 x20 x21 x3).trans f15;have el:=oe_ fsz x9 x12 x13 x16 x17 x20 x21 x3;obtain⟨lb,hD,lblk,lge⟩:=t8 d8;replace el:=el.trans hD;refine cL_ rfl rfl (fun K hK=>?_);refine eQ_ _ _ 31 rfl (w.heap.size+2) 70 i0 (.agg #[.int .i64 0,.int .i64 0,.string .empty,.int .i64 0]) 40 underlying31 hV hW hX hY rfl sJ aS_ a9_ lb el lblk lge ra rn rc rf es (h3.below (Aa hz ha)) (k3.1.2.2 hB0).2 (k3.1.2.2 hB0).1 sO sH sH ?_;intro a1 cap1 u1 R1 hc hE hN;dsimp only;refine hK.out _ _ ⟨hl _ (Aa ha hc),?_⟩;exact⟨b4,b7,b8,true,b12,b15,b16,b17,x9,x12,x13,_,x17,x20,x21,x3,rfl,pu_ a0 x9 x12 x13 x16 x17 x20 x21 x3 _,Aa ha hc,fun h=>(t4 h).below hc,fun h=>(t7 h).below hc,fun h=>(t8 h).below hc,fun _=>⟨_,_,rfl,R1,hE⟩,fun h=>(t12 h).below hc,fun h=>absurd (t15 h).1 sK,fun h=>absurd (t16 h).2.1 sK,fun h=>(t17 h).below hc⟩
  ·have hb:b12=false:=h0;subst hb;simp only[Yp,Yt,Yo,Zo] at ho;subst ho;refine cL_ rfl rfl (fun K hK=>?_);go_simp;refine hK.out _ _ ⟨hl _ (Aa ha sM),?_⟩;exact⟨b4,b7,b8,b11,true,b15,b16,b17,x9,x12,x13,x16,_,x20,x21,x3,rfl,pv_ a0 x9 x12 x13 x16 x17 x20 x21 x3 _,Aa ha sM,fun h=>(t4 h).below sM,fun h=>(t7 h).below sM,fun h=>(t8 h).below sM,fun h=>(t11 h).below sM,fun _=>⟨_,rfl,Blk.new _ _ _,sH⟩,fun h=>⟨(t15 h).1,(t15 h).2.1.below sM,(t15 h).2.2⟩,t16,fun h=>(t17 h).below sM⟩
  ·cases h0
  ·cases h0
  ·have hb:b15=false:=h0;subst hb;simp only[Yp,Yt,Yo,Zo] at ho;subst ho;have d12:b12=true:=hf ⟨12,.data⟩ sK rfl;have es:=(ok_ a0 x9 x12 x13 x16 x17 x20 x21 x3).trans f19;have el:=og_ fsz x9 x12 x13 x16 x17 x20 x21 x3;have d11:b11=true:=hf ⟨11,.chain⟩ sK rfl;obtain⟨ra',rc',hP,R3,zd⟩:=t11 d11;obtain⟨lb,hD,lblk,lge⟩:=t12 d12;replace el:=el.trans hD;refine cL_ rfl rfl (fun K hK=>?_);refine eQ_ _ _ 31 rfl (w.heap.size+2) 70 i0 (.agg #[.int .i64 0,.int .i64 0,.string .empty,.int .i64 0]) 40 underlying31 hV hW hX hY rfl sJ aS_ a9_ lb el lblk lge la ln lc lt es (h4.below (Aa hz ha)) (k4.1.2.2 hB0).2 (k4.1.2.2 hB0).1 sO sH sH ?_;intro a1 cap1 u1 R1 hc hE hN;dsimp only;refine hK.out _ _ ⟨hl _ (Aa ha hc),?_⟩;have sep:UI x16 (.slice a1 ln cap1):=by
    intro q1 q2 q3 q4 q5 q6 e1 e2 p q ep eq za h5;rw[hP] at e1
    cases e1;cases e2;have:=hN h5 q eq;have:=(R3.block p ep).2;omega
   exact⟨b4,b7,b8,b11,b12,true,b16,b17,x9,x12,x13,x16,x17,_,x21,x3,rfl,pw_ a0 x9 x12 x13 x16 x17 x20 x21 x3 _,Aa ha hc,fun h=>(t4 h).below hc,fun h=>(t7 h).below hc,fun h=>(t8 h).below hc,fun h=>(t11 h).below hc,fun h=>(t12 h).below hc,fun _=>⟨d11,⟨_,_,rfl,R1,hE⟩,sep⟩,fun h=>absurd (t16 h).2.2.1 sK,fun h=>(t17 h).below hc⟩
  ·have hb:b16=false:=h0;subst hb;simp only[Yp,Yt,Yo,Zo] at ho;subst ho;have d7:b7=true:=hf ⟨7,.data⟩ sK rfl;have d11:b11=true:=hf ⟨11,.data⟩ sK rfl;have d15:b15=true:=hf ⟨15,.data⟩ sK rfl;have e6:=(py_ a0 x9 x12 x13 x16 x17 x20 x21 x3).trans f6;have e8:=(pz_ a0 x9 x12 x13 x16 x17 x20 x21 x3).trans f8;have e12:=od_ fsz x9 x12 x13 x16 x17 x20 x21 x3;have e16:=of_ fsz x9 x12 x13 x16 x17 x20 x21 x3;have e20:=oh_ fsz x9 x12 x13 x16 x17 x20 x21 x3;obtain⟨ea',ec',g7,_,_⟩:=t7 d7;obtain⟨ra',rc',hQ,_,_⟩:=t11 d11;obtain⟨_,⟨la',lc',hR,_,_⟩,_⟩:=t15 d15;replace e12:=e12.trans g7;replace e16:=e16.trans hQ;replace e20:=e20.trans hR;refine cL_ rfl rfl (fun K hK=>?_);generalize hA:Bg a0 x9 x12 x13 x16 x17 x20 x21 x3=A at *;simp only[Oper.wp,execOp,List.map_toArray,YD,List.map_nil,e6,e8,e12,e16,e20];go_simp;refine hK.out _ _ ⟨hl _ ha,?_⟩;rw[<-hA];exact⟨b4,b7,b8,b11,b12,b15,true,b17,x9,x12,x13,x16,x17,x20,_,x3,rfl,px_ a0 x9 x12 x13 x16 x17 x20 x21 x3 _,ha,t4,t7,t8,t11,t12,t15,fun _=>⟨d7,d11,d15,by rw[g7,hQ,hR]⟩,t17⟩
  ·have hb:b17=false:=h0;subst hb;simp only[Yp,Yt,Yo,Zo] at ho;subst ho;refine cL_ rfl rfl (fun K hK=>?_);go_simp;refine hK.out _ _ ⟨hl _ (Aa ha sM),?_⟩;exact⟨b4,b7,b8,b11,b12,b15,b16,true,x9,x12,x13,x16,x17,x20,x21,_,rfl,pX_ a0 x9 x12 x13 x16 x17 x20 x21 x3 _,Aa ha sM,fun h=>(t4 h).below sM,fun h=>(t7 h).below sM,fun h=>(t8 h).below sM,fun h=>(t11 h).below sM,fun h=>(t12 h).below sM,fun h=>⟨(t15 h).1,(t15 h).2.1.below sM,(t15 h).2.2⟩,t16,fun _=>⟨_,rfl,Blk.new _ _ _,sH⟩⟩
  ·cases h0
theorem kZ_ {f:α->Bool}{k:Nat}{x:α}(h:l[k]?=some x):(l.take (k+1)).filter f=(l.take k).filter f++(if f x=true then [x] else []):=by
 rw[bx_ h,YR]
 cases hf:f x<;>simp[hf]
theorem jD_ (B:Nat)(v:Value)(p:Po)(w:World)(h:AM B w v p)(hBw:B<=w.heap.size)(hex:p.ex.length<=4194304)(hrn:p.rf.length<=100000)(hln:p.lt.length<=100000)(hb:∀ x∈p.rf,-100000000<=x.n∧x.n<=100000000)(hb':∀ x∈p.lt,-100000000<=x.n∧x.n<=100000000):
  Calls prog 165 #[v] w fun e w'=>(∃ v',e=.returned v'∧AM B w' v' (AE p))∧Below w.heap.size w w':=by
 obtain⟨ea,en,ec,va,vn,vc,ra,rn,rc,la,ln,lc,rows,rfl,h1,⟨h2,h3⟩,h4,h5,h6⟩:=h;obtain⟨size,next,ex,vs,rf,lt⟩:=p;simp only at h1 h2 h3 h4 h5 hex hrn hln hb hb' ⊢;rw[h1.sl.len] at hex;rw[h4.sl.len] at hrn;rw[h5.sl.len] at hln;go_enter func165,ntmps165;go_wp2_with fail;refine (cJ_ ra rn rc rf la ln lc lt _ (h4.sl.below sM) h4.arg.spot h4.arg.nil (h5.sl.below sM) hrn hln hb hb').mono ?_;rintro e w1 ⟨⟨sa,sn,sc,rfl,hQ,RS⟩,qe⟩;have C:Blk w1 w.heap.size #[.int .i64 size,.int .i64 next,.slice ea en ec,.slice va vn vc,.slice ra rn rc,.slice la ln lc] 33:=((Blk.new w _ _).alloc _).below qe;have D:Blk w1 (w.heap.size+1) #[.int .i64 0,.int .i64 0,.slice none 0 0,.slice none 0 0,.slice none 0 0,.slice none 0 0] 33:=(Blk.new' _ _ _ _ sK).below qe;have hg:Below w.heap.size w w1:=Aa sM qe;have hE:w.heap.size+2<=w1.heap.size:=rk;replace RS:=RS.mono (B':=w.heap.size+2) sK;clear qe;obtain⟨c0,c1,c2,c3,c4,c5⟩:=C.six';have f4:=C.frozen 4;have C1:Blk (w1.setCell ⟨w.heap.size,4,none⟩ (.slice sa sn sc)) w.heap.size #[.int .i64 size,.int .i64 next,.slice ea en ec,.slice va vn vc,.slice sa sn sc,.slice la ln lc] 33:=by simpa using C.set 4 (.slice sa sn sc)
 have he:=CE w1 w.heap.size 4 (.slice sa sn sc);have e5:=C1.cell 5;have f5:=C1.frozen 5;have C2:Blk ((w1.setCell ⟨w.heap.size,4,none⟩ (.slice sa sn sc)).setCell ⟨w.heap.size,5,none⟩ (.slice none 0 0)) w.heap.size #[.int .i64 size,.int .i64 next,.slice ea en ec,.slice va vn vc,.slice sa sn sc,.slice none 0 0] 33:=by simpa using C1.set 5 (.slice none 0 0)
 have hm:w1.grownBy ((w1.setCell ⟨w.heap.size,4,none⟩ (.slice sa sn sc)).setCell ⟨w.heap.size,5,none⟩ (.slice none 0 0)) (some w.heap.size):=af_ he 5 (.slice none 0 0);have D2:Blk _ (w.heap.size+1) _ _:=(hm.block _ D.lt sW).trans D;have hs:=RS.ty hm (aa_ C) sJ;have hp:=hg.grown hm hg.size (fun j e=>by cases e;exact Zd _);have hG:=hm.size;have hJ:((w1.setCell ⟨w.heap.size,4,none⟩ (.slice sa sn sc)).setCell ⟨w.heap.size,5,none⟩ (.slice none 0 0)).heap.size=w1.heap.size:=sK;go_wp2_with fail;generalize (w1.setCell ⟨w.heap.size,4,none⟩ (.slice sa sn sc)).setCell ⟨w.heap.size,5,none⟩ (.slice none 0 0)=W at *;clear c0 c1 c2 c3 c4 c5 f4 e5 f5 C1 he hm C D RS hg;have hq:Hid (ex.length=en):=h1.sl.len;have hr:sn<=4194304:=sH;have hF:∀ e:Ex,((A4 rf lt)++[]).any (fun c=>c.o.a==e.a)=(A4 rf lt).any (fun c=>c.o.a==e.a):=fun e=>by rw[Yy]
 go_loopw [3,4] (fun lst ix wr=>∃ (k:Nat) (a2:Option Addr) (n2 cap2:Nat),k<=en∧ix=.int .i64 k∧lst=.slice a2 n2 cap2∧n2<=k∧Ac Ex.cs 2 111 wr (w.heap.size+2) a2 n2 cap2 ((ex.take k).filter (fun e=>(A4 rf lt).any (fun c=>c.o.a==e.a)))∧Blk wr w.heap.size #[.int .i64 size,.int .i64 next,.slice ea en ec,.slice va vn vc,.slice sa sn sc,.slice none 0 0] 33∧Blk wr (w.heap.size+1) #[.int .i64 0,.int .i64 0,.slice none 0 0,.slice none 0 0,.slice none 0 0,.slice none 0 0] 33∧Ac Ct.cs 4 70 wr (w.heap.size+2) sa sn sc (A4 rf lt)∧w.heap.size+2<=wr.heap.size∧Below w.heap.size w wr) (fun _ ix _=>en-(intOf ix).toNat)
 case atStart=>exact⟨0,_,0,0,Zg _,rfl,rfl,Zd _,(by rw[Yx];exact aw_ (Blk.new' _ _ _ _ hJ.symm) sH),C2.alloc _,D2.alloc _,hs.alloc _,sN,hp.alloc hp.size _⟩
 case round=>
  clear C2 D2 hs hp hG hE;obtain⟨k,a2,n2,cap2,hk,rfl,rfl,hP,R2,C,D,RS,hR,hB⟩:=hrel;obtain⟨d0,d1,d2,d3,d4,d5⟩:=C.six';by_cases hlt:k<en
  ·obtain⟨b,o,x,rfl,hx,c0,c1⟩:=be_ (h1.sl.below hB) hlt;have hl:Hid ((ex.take (k+1)).filter (fun e=>(A4 rf lt).any (fun c=>c.o.a==e.a))=(ex.take k).filter (fun e=>(A4 rf lt).any (fun c=>c.o.a==e.a))++(if (A4 rf lt).any (fun c=>c.o.a==x.a)=true then [x] else [])):=kZ_ hx;have hM:b<w.heap.size+2:=by
    obtain⟨b',o',_,qW,_,g0,_⟩:=be_ h1.sl hlt;obtain⟨rfl,rfl⟩:b=b'∧o=o':=rE;have:=Yk w _ g0;simp only at this;omega
   clear hx;generalize (ex.take k).filter (fun e=>(A4 rf lt).any (fun c=>c.o.a==e.a))=FL at *;have hN:(k:Int)<en:=sH;have hO:(0:Int)<=k:=sH;have ha:=fun (u:World) (hu:Below wr.heap.size wr u)=>gJ_ size next (some ⟨b,o,none⟩) en ec va vn vc sa sn sc none 0 0 (A4 rf lt) [] x.a u (RS.sl.below hu) ⟨rfl,fun i y hy=>by simp at hy⟩ hr sH;have g0:=Ad d0;have g1:=Ad d1;have g2:=Ad d2;have g3:=Ad d3;have g4:=Ad d4;have g5:=Ad d5;have gx:=Ad c0;have hw:=aA_ wr;rw[hF] at ha
   cases hf:(A4 rf lt).any (fun c=>c.o.a==x.a)
   ·rw[hf] at hl ha;simp only[Zj,if_false,Yy] at hl;go_wp2_with fail;refine ab_ sI sI ?_;repeat (go_big_quiet_step (first | (go_at_call 95;exact an_ (ha _ (Grw.h _)))))
    refine wpQuiet_nil ?_;intro w6 ho;have hc:=ah_ ho;have hH:=hc.size;clear ho g0 g1 g2 g3 g4 g5 gx hw hf ha;go_wp2;go_roundw
    case rel=>exact⟨k+1,a2,n2,cap2,sH,sQ,rfl,sH,by rw[hl.out];exact R2.below hc,C.below hc,D.below hc,RS.below hc,sH,Aa hB hc⟩
    case measure=>simp[intOf];omega
   ·rw[hf] at hl ha;simp only[if_true] at hl;go_wp2_with fail;refine ab_ sI sI ?_;repeat (go_big_quiet_step (first | (go_at_call 95;exact an_ (ha _ (Grw.h _)))))
    refine wpQuiet_nil ?_;intro w6 ho;have hc:=ah_ ho;have hH:=hc.size;have R6:=R2.below hc;have C6:=C.below hc;have D6:=D.below hc;have hz:=RS.below hc;have ht:=Aa hB hc;have m2:w6.cell? ⟨w.heap.size,2,none⟩=some (.slice (some ⟨b,o,none⟩) en ec):=C6.cell 2;have x0:=Ab hc c0;have x1:=Ab hc c1;clear ho g0 g1 g2 g3 g4 g5 gx hw hf ha;go_wp2_with (at_builtin;refine ag_ rfl (fun K hK=>mG_ _ _ rfl (w.heap.size+2) a2 n2 cap2 FL rfl (R6.alloc _) _ 1 1 [x] rfl (c9_ _ x _ _ sK) (fun ad h=>sV) (fun h=>sY) (n2+1) rfl sH sN (fun a7 cap7 w7 R7 hn _=>hK _ _ ?_));have hh:∀ j,Value.ownBlock (.slice a2 n2 cap2)=some j->w.heap.size+2<=j:=aG_ fun ad hD=>(R6.block ad hD).1;have hL:=(R6.alloc (.cells #[.int .i64 x.a,.string x.d] 111)).rowTy (m:=n2) (k:=cap2);have hI:=hn.size;have C7:=(C6.alloc (.cells #[.int .i64 x.a,.string x.d] 111)).offB hn hh sH;have D7:=(D6.alloc (.cells #[.int .i64 x.a,.string x.d] 111)).offB hn hh sH;have hA:=(hz.alloc (.cells #[.int .i64 x.a,.string x.d] 111)).ty hn hL sJ;have hC:=Yi (ht.alloc ht.size (.cells #[.int .i64 x.a,.string x.d] 111)) hn sN (fun j e=>by have:=hh j e;omega));go_roundw
    case rel=>exact⟨k+1,a7,n2+1,cap7,sH,sQ,rfl,sH,by rw[hl.out];exact R7,C7,D7,hA,by simp at hI;omega,hC⟩
    case measure=>simp[intOf];omega
  ·obtain rfl:k=en:=sH;have f2:=C.frozen 2;have C1:Blk (wr.setCell ⟨w.heap.size,2,none⟩ (.slice a2 n2 cap2)) w.heap.size #[.int .i64 size,.int .i64 next,.slice a2 n2 cap2,.slice va vn vc,.slice sa sn sc,.slice none 0 0] 33:=by simpa using C.set 2 (.slice a2 n2 cap2)
   have he:=CE wr w.heap.size 2 (.slice a2 n2 cap2);have D1:Blk (wr.setCell ⟨w.heap.size,2,none⟩ (.slice a2 n2 cap2)) (w.heap.size+1) _ _:=(he.block _ D.lt sW).trans D;obtain⟨y0,y1,y2,y3,y4,y5⟩:=C1.six';obtain⟨x0,x1,x2,x3,x4,x5⟩:=D1.six';have f0:=D1.frozen 0;have f1:=D1.frozen 1;have q2:=D1.frozen 2;have f3:=D1.frozen 3;have f4:=D1.frozen 4;have f5:=D1.frozen 5;obtain⟨W8,hv,W0,hj⟩:=IS D1 (.int .i64 size) (.int .i64 next) (.slice a2 n2 cap2) (.slice va vn vc) (.slice sa sn sc) (.slice none 0 0);have R8:=(R2.ty he (aa_ C) sJ).ty hj (aa_ D1) sJ;have S8:=(RS.ty he (aa_ C) sJ).ty hj (aa_ D1) sJ;have V8:=((h2.below hB).ty he (aa_ C) sJ).ty hj (aa_ D1) sJ;have T8:=((h3.below hB).ty he (aa_ C) sJ sJ).ty hj (aa_ D1) sJ sJ;have B8:=(hB.grown he hB.size (fun j e=>by cases e;exact Zd _)).grown hj (by have:=he.size;have:=hB.size;omega) (fun j e=>by cases e;omega);rw[Zk (Zm hq.out)] at R8;clear C1 D1 he hj;go_wp2;rw[<-hv];clear hv;refine YW (results_cell_row rfl _ W8 (w.heap.size+1) _ _ _ _ rfl W0 underlying33 rfl sI) rfl ?_;exact⟨⟨_,rfl,a2,n2,cap2,va,vn,vc,sa,sn,sc,none,0,0,rows,rfl,R8.mono sH,⟨V8,T8⟩,S8.mono sH,aB_,fun p q _ e=>by cases e⟩,B8⟩
end
section
open Go Go.RowKit Go.BigFrame Tryz
variable{α:Type}{K:Act->World->Prop}{x:Ct}{Q:Exit->Act->World->Prop}{l:List Ct}{k m n size:Nat}{o:Oper}{p:Po}{P:Program}{a b w w':World}{cs:α->List Value}
theorem k1_ (c:Ct):∀ (l:List Ct),(BF l c).length<=l.length+1
 |[]=>by simp[BF]
 |y::r=>by
  have:=k1_ c r
  unfold BF;split
  ·simp only[Zw];omega
  ·split
   ·split
    ·simp only[Zw];omega
    ·simp only[Zw];omega
   ·simp only[Zw];omega
theorem iZ_:∀ (m l:List Ct),(A4 l m).length<=l.length+m.length
 |[],l=>Zd _
 |c::r,l=>by
  have h1:=iZ_ r (BF l c);have h2:=k1_ c l;show (A4 (BF l c) r).length<=_;simp only[Zw];omega
theorem nI_ (hp:Ai p=true)(hd:A7 p):A7 (AE p):=by
 obtain⟨_,_,_,hr,hl⟩:=aQ_ hp;obtain⟨z1,z2,z3,z4,z5,z6,z7,z8⟩:=hd;have hs:=iZ_ p.lt p.rf;have q1:=(a0_ hr).1;have q2:=(br_ hl).1;refine⟨Zl (Yc _ _) z1,fun e he=>z2 e (YG.1 he).1,z3,z4,?_,g7_ z6 z8,Zg _,fun c hc=>by cases hc⟩;show (A4 p.rf p.lt).length<=_;omega
theorem k2_ (h:Below w.heap.size w w'):w.grownBy w' none:=⟨h.os,h.tape,h.output,h.size,fun k hk _=>h.block k hk⟩
theorem jE_ {a:Act}
  (s x:Operand)(t:TypeId)(ho:o.op=.call {callee:=.builtin .append,args:=#[s,x],argTypes:=#[t,t]})
  (B:Nat)(e:TypeId)(i:TypeInfo)(z:Value)(bytes:Nat)(hi:P.info? e=some i)(hz:i.zero=some z)(hsize:i.size=size)(hby:i.bytes=bytes)(ht:P.underlying t=some (.slice e))(hzs:z.cells.size=size)(hpos:0<size)
  (hsz:∀ y,(cs y).length=size)(hone:∀ (l:List α),∀ u∈l.flatMap cs,u.oneCell'=true)
  (da:Option Addr)(dn dcap:Nat)(ld:List α)(hs:a.eval s=.slice da dn dcap)(hd:Ac cs size e w B da dn dcap ld)
  (sa:Option Addr)(sn scap:Nat)(ls:List α)(hx:a.eval x=.slice sa sn scap)(hsrc:AH cs size w sa sn ls)(hspot:∀ ad,sa=some ad->ad.spot=none)(hnone:sa=none->scap=0)
  (ra:Option Addr)(rn rc:Nat)(lr:List α)(hr:Ac cs size e w B ra rn rc lr)(hap:∀ x y,ra=some x->da=some y->0<rc->0<dcap->x.block≠y.block)
  (tot:Nat)(htot:dn+sn=tot)(h63:tot<=maxLen)(hbytes:tot*bytes<=140737488355328)(hbase:B<=w.heap.size)
  (h:∀ a' cap' w' row,Ac cs size e w' B a' tot cap' (ld++ls)->Ac cs size e w' B ra rn rc lr->w.grownBy w' row->BC w row e->(∀ k,row=some k->B<=k)->(∀ x y,ra=some x->a'=some y->0<rc->0<cap'->x.block≠y.block)->K (a.put o.dst (.slice a' tot cap')) w'):o.wp P a w K Q:=by
 rcases hd.own with⟨rfl,rfl,rfl⟩ | ⟨b,rfl,hm,hu,hq,c,hc,hk,hv⟩
 ·refine mX_ s x t ho B e i z bytes ht hi hz hsize hby hzs hpos hsz hone none 0 0 ld hs hd sa sn scap ls hx hsrc hspot hnone tot htot h63 hbytes hbase (fun a' cap' w' R hg hf=>?_);refine h a' cap' w' none R (hr.off hg (fun ad _=>by simp[Value.ownBlock])) hg hA_ (fun k e=>by cases e) (fun x y hx hy _ _=>?_);rcases hf y hy with⟨_,h0,_⟩ | h1
  ·cases h0
  ·have:=(hr.block x hx).2;omega
 ·by_cases hcap:0<dcap
  ·have hl:∀ ad,ra=some ad->ad.block≠b:=fun ad ha hb=>by
    by_cases hrc:0<rc
    ·exact hap ad _ ha rfl hrc hcap hb
    ·rcases hr.own with⟨h0,_⟩ | ⟨b',h1,_,_,_,c',he,hj,_⟩
     ·rw[h0] at ha;cases ha
     ·rw[h1] at ha;cases ha;simp only at hb;subst hb;have:c=c':=by
       unfold Blk at hc he;rw[hc] at he;injection he with e1;injection e1
      rw[this,hj] at hk;have:0<dcap*size:=Nat.mul_pos hcap hpos;have:rc=0:=sH;subst this;omega
   refine mX_ s x t ho B e i z bytes ht hi hz hsize hby hzs hpos hsz hone _ dn dcap ld hs hd sa sn scap ls hx hsrc hspot hnone tot htot h63 hbytes hbase (fun a' cap' w' R hg hf=>?_);refine h a' cap' w' _ R (hr.off hg (fun ad ha=>by simp[Value.ownBlock];exact hl ad ha)) hg hd.rowTy (aG_ fun ad ha=>(hd.block ad ha).1) (fun x y hx hy _ _=>?_);rcases hf y hy with⟨ad,h0,h1⟩ | h1
   ·cases h0;have:=hl x hx;simp only at h1;omega
   ·have:=(hr.block x hx).2;omega
  ·obtain rfl:dcap=0:=sH;obtain rfl:dn=0:=sH;have hp:ld=[]:=Zt hd.sl.len;subst hp;have hn:c=#[]:=Array.eq_empty_of_size_eq_zero (by rw[hk];simp);subst hn;subst htot;rw[Zq] at h63 hbytes;refine eQ_ s x t ho B e i z bytes ht hi hz hsize hby hzs hpos hsz hone b hs hc hm sa sn scap ls hx hsrc hspot hnone h63 hbytes hbase (fun a' cap' w' R hB _ hf=>?_)
   have hh:=h a' cap' w' none (by simpa using R) (hr.below hB) (k2_ hB) hA_ (fun k e=>by cases e) (fun x y hx hy _ hc=>by
    have:=(hr.block x hx).2;have:=hf hc y hy
    omega)
   rw[Zq] at hh;exact hh
theorem Ud (h:Below n w a)(h':Below m a b)(hn:n<=m):Below n w b:=⟨h'.os.trans h.os,h'.tape.trans h.tape,h'.output.trans h.output,Zl h.size h'.size,fun k hk=>(h'.block k sH).trans (h.block k hk)⟩
def IJ (l:List Ct)(k:Nat):List Ct:=Jn (l.take k)++l.drop k
theorem i0_ (l:List Ct):IJ l 0=l:=by simp[IJ,Jn]
theorem k3_ (h:l.length=k):IJ l k=Jn l:=by
 unfold IJ;rw[Zk (Zm h),Ze (Zm h),Yy]
theorem mY_ (h:l[k]?=some x):(IJ l k)[k]?=some x:=by
 have hk:=(Zb.1 h).1;unfold IJ Jn;rw[Zv sN];simp only[List.length_map,Zz,List.getElem?_drop];rw[ZZ sH];simpa using h
theorem k4_ (h:l[k]?=some x):(IJ l k).set k ⟨x.o,-x.n⟩=IJ l (k+1):=by
 have hk:=(Zb.1 h).1;unfold IJ Jn;rw[List.set_append_right _ _ sN];rw[ZK,h];simp only[List.length_map,Zz];rw[ZZ sH,Nat.sub_self,al_ h];simp
theorem oP_ {a b:Int}(h:∀ x∈l,a<=x.n∧x.n<=b):∀ x∈Jn l,-b<=x.n∧x.n<=-a:=fun x hx=>by
 obtain⟨d,hd,rfl⟩:=ZT.1 hx
 have:=h d hd
 simp only;omega
theorem k5_ {q:Po}(hd:A7 p)(hrf:q.rf=p.rf)(hlt:q.lt=p.lt)(hex:q.ex.length<=4194304∧Strs q.ex)(hws:WS q.vs)(hn:(IF p q).lt.length<=4194304):A7 (IF p q):=by
 obtain⟨z1,z2,z3,z4,z5,z6,z7,z8⟩:=hd;refine⟨hex.1,hex.2,?_,hws.2,?_,?_,hn,?_⟩
 ·have:=hws.1.1;show q.vs.length<=_;omega
 ·show q.rf.length<=_;rw[hrf];exact z5
 ·show Cx q.rf;rw[hrf];exact z6
 ·show Cx (q.lt++_);intro c hc;rcases Zs.1 hc with hc | hc
  ·rw[hlt] at hc;exact z8 c hc
  ·exact g7_ (f8_ hws.2) (mV_ (f8_ z4)) c hc
theorem nJ_ {o:Opr}(hp:Ai p=true)(hd:A7 p)(hs:o.data.size<=9223372036854775807):(Dn p o).2.rf=p.rf∧(Dn p o).2.lt=p.lt∧((Dn p o).2.ex.length<=4194304∧Strs (Dn p o).2.ex):=by
 have ha:p.ex.length<=60:=(cu_ (aQ_ hp).1).2.2.1;have hx:(Bb p o).2.1.length<=4194304∧Strs (Bb p o).2.1:=by
  have hb:p.ex.length<=4194304∧Strs p.ex:=⟨hd.1,hd.2.1⟩;unfold Bb;simp only;split
  ·split
   ·exact hb
   ·rename_i l a hpl;obtain⟨_,_,_,f4,_,_,_,f8⟩:=jC_ hpl;refine⟨by show l.length<=_;omega,fun e he=>?_⟩;rcases f8 e he with he | rfl
    ·exact hd.2.1 e he
    ·exact hs
  ·split
   ·split
    ·exact hb
    ·split<;>exact hb
   ·split
    ·exact hb
    ·split
     ·exact hb
     ·split<;>exact hb
 have hb:p.rf=p.rf∧p.lt=p.lt∧(p.ex.length<=4194304∧Strs p.ex):=⟨rfl,rfl,hd.1,hd.2.1⟩;unfold Dn;simp only;split
 ·exact hb
 ·split
  ·exact hb
  ·split
   ·exact hb
   ·split
    ·exact⟨rfl,rfl,hx⟩
    ·exact hb
theorem oQ_ {o:Opr}(hd:A7 p):(CS p o).2.rf=p.rf∧(CS p o).2.lt=p.lt∧((CS p o).2.ex.length<=4194304∧Strs (CS p o).2.ex):=by
 have hb:p.rf=p.rf∧p.lt=p.lt∧(p.ex.length<=4194304∧Strs p.ex):=⟨rfl,rfl,hd.1,hd.2.1⟩;unfold CS;split
 ·split<;>exact hb
 ·split
  ·exact hb
  ·split
   ·exact hb
   ·split
    ·split<;>exact hb
    ·split
     ·exact hb
     ·split
      ·split<;>exact hb
      ·split
       ·split
        ·exact hb
        ·split<;>exact hb
       ·exact hb
end
section
open Go Go.RowKit Go.BigFrame Tryz
variable{α:Type}{c:Array Value}{B b j n:Nat}{a:Option Addr}{p:Po}{v x:Value}{w w':World}{l:List α}
theorem Ac.same {t:TypeId}{cs:α->List Value}{sz:Nat}{cap:Nat}(h:Ac cs sz t w B a n cap l)(he:∀ ad,a=some ad->w'.heap[ad.block]?=w.heap[ad.block]?):Ac cs sz t w' B a n cap l:=by
 have hb:∀ b o,a=some ⟨b,o,none⟩->∀ j,w'.cell? ⟨b,j,none⟩=w.cell? ⟨b,j,none⟩:=fun b o ha j=>by
  have:=he _ ha;simp only[World.cell?];rw[this]
 refine⟨⟨h.sl.len,fun i x hx=>?_⟩,?_⟩
 ·obtain⟨b,o,ha,hc⟩:=h.sl.cell i x hx;exact⟨b,o,ha,fun j v hv=>by rw[hb b o ha];exact hc j v hv⟩
 ·rcases h.own with h0 | ⟨b,ha,hB,h1,h2,c,hc,q⟩
  ·exact .inl h0
  ·exact .inr ⟨b,ha,hB,h1,h2,c,(he _ ha).trans hc,q⟩
theorem dv_ (h:Ai p=true):As p.rf p.lt=some (A4 p.rf p.lt)∧AB p.rf=true∧AQ p.lt=true:=by
 simp only[Ai,Zf] at h;have h1:=h.1.2;unfold As at h1 ⊢;split at h1
 ·rename_i hh;split at hh
  ·split at hh<;>cases h1
  ·cases h1
 ·rename_i s hh;split at hh
  ·rename_i h2;split at hh
   ·rename_i h3;rw[if_pos h2,if_pos h3];exact⟨rfl,h2⟩
   ·cases hh
  ·cases hh
theorem c6_ (h:Ai p=true):AB (A4 p.rf p.lt)=true:=by
 have h1:=(dv_ h).1;unfold As at h1;split at h1
 ·split at h1
  ·assumption
  ·cases h1
 ·cases h1
end
section
open Go Go.RowKit Go.BigFrame Tryz
variable{k m n size:Nat}{a b w:World}
theorem chainB (h:Below n w a)(h':Below m a b)(hn:n<=m):Below n w b:=⟨h'.os.trans h.os,h'.tape.trans h.tape,h'.output.trans h.output,Zl h.size h'.size,fun k hk=>(h'.block k sH).trans (h.block k hk)⟩
end
end Go.Proofs.YteejlahappbalaaGreatDoor
