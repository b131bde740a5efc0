/- The laws' comparisons of lists of items and volumes, where they are the same. -/
import Derived.Test.YteejlahappbalaaGreatDoorU03
set_option maxHeartbeats 20000000
set_option maxRecDepth 100000
namespace Go.Proofs.YteejlahappbalaaGreatDoor
section
open Go Go.RowKit Go.BigFrame Tryz
variable{α:Type}{c:Array Value}{l:List Vo}{B b cap i j k n:Nat}{a:Option Addr}{p:Po}{out v:Value}{w w':World}{x:α}{cs:α->List Value}
def Pm (l:List Vo):Prop:=l.length<=7∧∀ v∈l,v.its.length<=6∧∀ x∈v.its,x.ps.length<=1000∧∀ p∈x.ps,0<=p.a
theorem Ii.wide (h:Ii l):Pm l:=⟨by have:=h.1;omega,fun v hv=>⟨by have:=(h.2 v hv).1;omega,fun x hx=>⟨by have:=((h.2 v hv).2 x hx).1;omega,((h.2 v hv).2 x hx).2⟩⟩⟩
theorem ke_ (l a b:List Ct):A4 l (a++b)=A4 (A4 l a) b:=by simp[A4]
theorem lE_ {v:Vo}(h:l[i]?=some v):BI (l.take (i+1))=BI (l.take i)++BP v v.its:=by
 unfold BI;rw[bx_ h,ZQ];simp[J6,BP]
theorem bA_ (B:Nat)(a:Option Addr)(n cap:Nat)(vs:List Vo)(w:World)(h:Ek B w a n vs)(ht:Pm vs):
  Calls prog 94 #[.slice a n cap] w fun e w'=>(∃ a' n' cap',e=.returned (.slice a' n' cap')∧n'<=42000∧(∀ x∈A9 vs,-42000000<=x.n∧x.n<=42000000)∧Ac Ct.cs 4 70 w' w.heap.size a' n' cap' (A9 vs))∧Below w.heap.size w w':=by
 have hg:Hid (vs.length=n):=h.len;have hN:n<=7:=by rw[<-hg.out];exact ht.1
 go_enter func94,ntmps94;go_wp2_with fail;go_loopw [3,4] (fun out ix wr=>∃ (i:Nat),i<=n∧ix=.int .i64 i∧Fnd wr w.heap.size out (A4 [] (BI (vs.take i))) (6000*i)∧Below w.heap.size w wr) (fun _ ix _=>n-(intOf ix).toNat)
 case atStart=>exact⟨0,Zg _,rfl,⟨⟨_,0,0,rfl,Zg _,aw_ (Blk.new' _ _ _ _ rfl) (Zd _)⟩,fun x hx=>by cases hx⟩,(Yg _ _).alloc (Zd _) _⟩
 case round=>
  obtain⟨i,hi,rfl,hF,hB⟩:=hrel;obtain⟨wi,hC⟩:∃ x,x=wr:=⟨_,rfl⟩;subst hC;by_cases hlt:i<n
  ·obtain⟨b,o,v,ia,inn,icp,rfl,hv,c0,c1,c2,c3,hI,_,_⟩:=b5_ (h.below hB) hlt;obtain⟨t1,t2⟩:=ht.2 v (Zc hv);have hr:Hid (v.its.length=inn):=hI.len;rw[hr.out] at t1;have hE:(i:Int)<n:=sH;have hG:(0:Int)<=i:=sH;have hl:Hid (BI (vs.take (i+1))=BI (vs.take i)++BP v v.its):=lE_ hv;clear hv;generalize BI (vs.take i)=PA at *;go_wp2_with fail;go_loopw [3,5] (fun out ix wk=>∃ (k:Nat),k<=inn∧ix=.int .i64 k∧Fnd wk w.heap.size out (A4 [] (PA++BP v (v.its.take k))) (6000*i+1000*k)∧Below wi.heap.size wi wk) (fun _ ix _=>inn-(intOf ix).toNat)
   case atStart=>exact⟨0,Zg _,rfl,by simpa[BP] using hF,Yg _ _⟩
   case round=>
    clear hF;obtain⟨k,hk,rfl,hF,hc⟩:=hrel;obtain⟨wk,hD⟩:∃ x,x=wr:=⟨_,rfl⟩;subst hD;have e0:=Ab hc c0;have e3:=Ab hc c3;by_cases hlk:k<inn
    ·obtain⟨b',o',x,pa,pn,pc,rfl,hx,d0,d1,hP,_,_,_⟩:=bO_ (hI.below hc) hlk;obtain⟨u1,u2⟩:=t2 x (Zc hx);have hs:Hid (x.ps.length=pn):=hP.len;rw[hs.out] at u1;have hK:(k:Int)<inn:=sH;have hL:(0:Int)<=k:=sH;have hm:Hid (BP v (v.its.take (k+1))=BP v (v.its.take k)++AX v.id x.nm x.ps):=fq_ hx;clear hx;generalize BP v (v.its.take k)=PI at *;go_wp2_with fail;have he:Below wk.heap.size wk (wk.alloc (.cells #[.string x.nm,.slice pa pn pc] 125)):=sM;have X0:(wk.alloc (.cells #[.string x.nm,.slice pa pn pc] 125)).cell? ⟨wk.heap.size,0,none⟩=some (.string x.nm):=(Blk.new wk #[.string x.nm,.slice pa pn pc] 125).cell 0;have X1:(wk.alloc (.cells #[.string x.nm,.slice pa pn pc] 125)).cell? ⟨wk.heap.size,1,none⟩=some (.slice pa pn pc):=(Blk.new wk #[.string x.nm,.slice pa pn pc] 125).cell 1;have E0:=Ab he e0;have hy:=hP.below he;have hq:=hF.below he;generalize wk.alloc (.cells #[.string x.nm,.slice pa pn pc] 125)=W0 at *;go_loopw [3,7] (fun out ix wj=>∃ (j:Nat),j<=pn∧ix=.int .i64 j∧Fnd wj w.heap.size out (A4 [] (PA++PI++AX v.id x.nm (x.ps.take j))) (6000*i+1000*k+j)∧Below W0.heap.size W0 wj) (fun _ ix _=>pn-(intOf ix).toNat)
     case atStart=>exact⟨0,Zg _,rfl,by simpa[AX] using hq,Yg _ _⟩
     case round=>
      clear hF hq;obtain⟨j,hj,rfl,hF,ha⟩:=hrel;have x0:=Ab ha X0;have x1:=Ab ha X1;have y0:=Ab ha E0;by_cases hlj:j<pn
      ·obtain⟨b2,o2,p,rfl,hp,f0,f1,f2⟩:=bi_ (hy.below ha) hlj;have hO:=u2 p (Zc hp);have hb:Hid (AX v.id x.nm (x.ps.take (j+1))=AX v.id x.nm (x.ps.take j)++(if p.a==0 then [] else [⟨⟨p.a,v.id,x.nm⟩,1⟩])):=gI_ hp;clear hp;generalize AX v.id x.nm (x.ps.take j)=PP at *;have hH:(j:Int)<pn:=sH;have hJ:(0:Int)<=j:=sH;by_cases hz:0<p.a
       ·have hn:(p.a==0)=false:=ZV.2 sH;rw[hn] at hb;simp only[Zj,if_false] at hb;obtain⟨⟨a2,n2,cap2,rfl,hA,R⟩,hf⟩:=hF;go_wp2_with fail;refine aE_ 16 sI sI ?_;simp only[ZP,Yx,ZR,YC];(repeat still_step);refine wpStill_nil ?_;go_wp2_with fail;have hh:=(Yg wr.heap.size wr).drew;refine (hr_ a2 n2 cap2 _ ⟨⟨p.a,v.id,x.nm⟩,1⟩ _ (R.sl.below hh) sH (fun z ho=>by have:=hf z ho;omega) sK).mono ?_;rintro e w3 ⟨⟨a3,n3,cap3,rfl,hM,R3⟩,hu⟩;have hw:Below wr.heap.size wr w3:=Aa hh hu;have hQ:=hB.size;have hR:=hc.size;have hS:=he.size;have hT:=ha.size;have hU:=hh.size;go_wp2;go_roundw
        case rel=>
         refine⟨j+1,sH,sQ,⟨⟨a3,n3,cap3,rfl,sH,?_⟩,?_⟩,Aa ha hw⟩
         ·rw[hb.out,<-ZC,ke_];exact R3.mono sH
         ·rw[hb.out,<-ZC,ke_];intro z ho;have:=lD_ (B:=1000*((6000*i+1000*k+j:Nat):Int)) sH (c:=⟨⟨p.a,v.id,x.nm⟩,1⟩) sK sK hf z ho;omega
        case measure=>simp[intOf];omega
       ·have hn:(p.a==0)=true:=sN;rw[hn] at hb;simp only[if_true,Yy] at hb;go_wp2;go_roundw
        case rel=>exact⟨j+1,sH,sQ,by rw[hb.out];exact hF.mono sH,ha⟩
        case measure=>simp[intOf];omega
      ·obtain rfl:j=pn:=sH;go_wp2;go_roundw
       case rel=>
        refine⟨k+1,sH,sQ,?_,Aa hc (Aa he ha)⟩;rw[hm.out,<-ZC];rw[Zk (Zm hs.out)] at hF;exact hF.mono sH
       case measure=>simp[intOf];omega
    ·obtain rfl:k=inn:=sH;go_wp2;go_roundw
     case rel=>
      refine⟨i+1,sH,sQ,?_,Aa hB hc⟩;rw[hl.out,<-Zk (l:=v.its) (Zm hr.out)];exact hF.mono sH
     case measure=>simp[intOf];omega
  ·obtain rfl:i=n:=sH;obtain⟨⟨a2,n2,cap2,rfl,hA,R⟩,hf⟩:=hF;go_wp2;go_returns;rw[Zk (Zm hg.out)] at R hf;exact⟨⟨a2,n2,cap2,rfl,sH,(fun x hx=>by have:=hf x hx;omega),R⟩,hB⟩
theorem ir_ (B:Nat)(a:Option Addr)(n cap:Nat)(vs:List Vo)(w:World)(h:Ek B w a n vs)(ht:Ii vs):
  Calls prog 94 #[.slice a n cap] w fun e w'=>(∃ a' n' cap',e=.returned (.slice a' n' cap')∧n'<=42000∧Ac Ct.cs 4 70 w' w.heap.size a' n' cap' (A9 vs))∧Below w.heap.size w w':=by
 refine (bA_ B a n cap vs w h ht.wide).mono ?_;rintro e w' ⟨⟨a',n',cap',he,hn,_,R⟩,hB⟩;exact⟨⟨a',n',cap',he,hn,R⟩,hB⟩
end
section
open Go.RowKit Go.BigFrame Go.Lib Tryz
variable{B e n:Nat}{w:World}
theorem kf_ (addr:Int):∀ (l:List Ex) (k:Nat),(atG addr k l=-1∧AU addr l=⟨#[]⟩)∨∃ (j:Nat) (x:Ex),l[j]?=some x∧atG addr k l=(k:Int)+j∧AU addr l=x.d
 |[],k=>.inl ⟨rfl,rfl⟩
 |e::r,k=>by
  unfold atG AU;split
  ·rename_i h;exact .inr ⟨0,e,rfl,sK,rfl⟩
  ·rename_i h;rcases kf_ addr r (k+1) with⟨h1,h2⟩ | ⟨j,x,h1,h2,h3⟩
   ·exact .inl ⟨h1,h2⟩
   ·exact .inr ⟨j+1,x,rR,by rw[h2];omega,h3⟩
theorem eo_ (a:Option Addr)(n cap:Nat)(l:List Pt)(a':Option Addr)(n' cap':Nat)(e:List Ex)(w:World)(h:BH w a n l)(h':Cg w a' n' e)(hstr:Strs e)(hn:n<=16)(hn':n'<=4194304)(hall:∀ p∈l,1<=p.n∧p.n<=100∧(p.a≠0->0<=p.f∧p.f<20)):
  Calls prog 136 #[.slice a n cap,.slice a' n' cap'] w fun x w'=>Ph x (cgo e ⟨#[]⟩ l)∧Below w.heap.size w w':=by
 have qg:Hid (l.length=n):=h.len;have hf:Hid (cgo e ⟨#[]⟩ l=cgo e ⟨#[]⟩ (l.drop 0)):=rfl;generalize cgo e ⟨#[]⟩ l=R at *;obtain⟨i0,hi,hw,hx,hy⟩:=info_parts TG;go_enter func136,ntmps136;go_wp2_with fail;go_loopw [6,7] (fun out ix wr=>∃ (k:Nat) (s:ByteArray),k<=n∧ix=.int .i64 k∧s.size<=100*k∧out=.string s∧Hid (R=cgo e s (l.drop k))∧Below w.heap.size w wr) (fun _ ix _=>n-(RowKit.intOf ix).toNat)
 case atStart=>exact⟨0,⟨#[]⟩,Zg _,rfl,by simp[ByteArray.size],rfl,hf,Yg _ _⟩
 case round=>
  obtain⟨k,s,hk,rfl,hm,rfl,hI,hB⟩:=hrel;have hv:=hB.size;by_cases hlt:k<n
  ·obtain⟨b,o,p,rfl,hp,c0,c1,c2⟩:=bi_ (h.below hB) hlt;have hd:Hid (l.drop k=p::l.drop (k+1)):=al_ hp;obtain⟨hG,hH,ht⟩:=hall p (Zc hp);obtain⟨pa,pf,pn⟩:=p;dsimp only at *;obtain⟨pk,rfl⟩:∃ pk:Nat,pn=pk:=⟨pn.toNat,sH⟩
   cases ha:(pa==0)
   ·have hs:pa≠0:=dp;obtain⟨f0,f20⟩:=ht hs;obtain⟨fk,rfl⟩:∃ fk:Nat,pf=fk:=⟨pf.toNat,sH⟩;have hc:Hid (R=match pieceO e ⟨pa,fk,pk⟩ with | none=>none | some d=>cgo e (s++d) (l.drop (k+1))):=by show _=_;rw[hI.out,hd.out];rfl
    have hb:Hid (pieceO e ⟨pa,fk,pk⟩=if ((AU pa e).size:Int)<fk+pk then none else some ((AU pa e).extract fk (fk+pk))):=by
     exact pI
    have hD:=ek_ (addr:=pa) hstr;go_wp2_with fail;refine (iC_ a' n' cap' e pa _ ((h'.below hB).alloc _) hn').mono ?_;rintro x w3 ⟨rfl,rfl⟩;rcases kf_ pa e 0 with⟨g1,g2⟩ | ⟨j,x,g1,g2,g3⟩
    ·rw[g1];rw[g2,if_pos (by simp[ByteArray.size];omega)] at hb;clear hI hd hp c0 c1 c2;go_wp2_with fail;go_quiet (fail);go_wp2;go_returns;rw[hc.out,hb.out];exact⟨rfl,below_drewN sM _⟩
    ·rw[g2,show ((0:Nat):Int)+(j:Int)=j by omega];rw[g3] at hb hD;have hj:j<n':=by rw[<-h'.len];exact (Zb.1 g1).1
     obtain⟨b',o',x',rfl,hq,y0,y1⟩:=be_ ((h'.below hB).alloc (.cells #[.int .i64 pa,.int .i64 fk,.int .i64 pk] 156)) hj;rw[g1] at hq;obtain rfl:=Zi hq;have hh:Below w.heap.size w (wr.alloc (.cells #[.int .i64 pa,.int .i64 fk,.int .i64 pk] 156)):=hB.alloc hv _;have z0:(wr.alloc (.cells #[.int .i64 pa,.int .i64 fk,.int .i64 pk] 156)).cell? ⟨wr.heap.size,0,none⟩=some (.int .i64 pa):=sK;have z1:(wr.alloc (.cells #[.int .i64 pa,.int .i64 fk,.int .i64 pk] 156)).cell? ⟨wr.heap.size,1,none⟩=some (.int .i64 fk):=sK;have z2:(wr.alloc (.cells #[.int .i64 pa,.int .i64 fk,.int .i64 pk] 156)).cell? ⟨wr.heap.size,2,none⟩=some (.int .i64 pk):=sK;clear c0 c1 c2 hI hd hp g1 g2 g3;generalize wr.alloc (.cells #[.int .i64 pa,.int .i64 fk,.int .i64 pk] 156)=W at *;obtain⟨xa,D⟩:=x;dsimp only at *;have hA:(0:Int)<=j:=sH;have hC:(j:Int)<n':=sH;have hE:decide ((j:Int)<0)=false:=sK;by_cases hlt2:(D.size:Int)<fk+pk
     ·rw[if_pos hlt2] at hb;go_wp2_with fail;go_quiet (fail);go_wp2;go_returns;rw[hc.out,hb.out];exact⟨rfl,below_drewN hh _⟩
     ·rw[if_neg hlt2] at hb;have hF:(fk:Int)+(pk:Int)<=D.size:=sH;have hu:=fun W'=>run_slice_string (P:=prog) W' 9 D .i64 .i64 fk (fk+pk) underlying9 sH sH sH;rw[show ((fk:Int)+(pk:Int)).toNat=fk+pk by omega,Int.toNat_natCast] at hu;have hJ:(D.extract fk (fk+pk)).size=pk:=df;generalize D.extract fk (fk+pk)=X at *;go_wp2_with fail;go_quiet (fail);have hr:=below_drewN hh nq;replace z0:(W.drewN nq).cell? ⟨wr.heap.size,0,none⟩=some (.int .i64 pa):=z0;replace z1:(W.drewN nq).cell? ⟨wr.heap.size,1,none⟩=some (.int .i64 fk):=z1;replace z2:(W.drewN nq).cell? ⟨wr.heap.size,2,none⟩=some (.int .i64 pk):=z2;replace y1:(W.drewN nq).cell? ⟨b',o'+j*2+1,none⟩=some (.string D):=y1;clear y0;generalize W.drewN nq=W1 at *;go_wp2_with fail;go_quiet (fail);go_wp2;go_roundw
      case rel=>exact⟨k+1,s++X,sH,sQ,by rw[ByteArray.size_append];omega,rfl,by show _=_;rw[hc.out,hb.out],below_drewN hr _⟩
      case measure=>simp[RowKit.intOf];omega
   ·have hc:Hid (R=cgo e (s++zs pk) (l.drop (k+1))):=by
     show _=_;rw[hI.out,hd.out];simp[cgo,pieceO,ha]
    have ho:∀ u:World,(Instr.makeSlice 22 (.int .i64 (pk:Int)) (.int .i64 (pk:Int))).run prog u=.ok (.slice (some ⟨u.heap.size,0,none⟩) pk pk) (u.alloc (.cells (strCells (zs pk)).toArray 5)):=fun u=>by
     have hm:=run_make (P:=prog) u 22 5 i0 (.int .u8 0) underlying22 hi hw .i64 .i64 (pk:Int) (pk:Int) sH (YB _) (by rw[hy];omega) sH;rw[jN_];simpa[hx,Value.cells,madeCells,Builtin.zeroCells] using hm
    have hl:∀ u:World,(convert 22 9 (.slice (some ⟨u.heap.size,0,none⟩) pk pk)).run prog (u.alloc (.cells (strCells (zs pk)).toArray 5))=.ok (.string (zs pk)) (u.alloc (.cells (strCells (zs pk)).toArray 5)):=fun u=>
     jO_ (B:=0) (e:=5) (n:=pk) ⟨by rw[strCells_length,ca_,Nat.mul_one],.inr ⟨u.heap.size,pk,_,rfl,Zg _,Blk.new u _ 5,Zd _,sO,by simp[strCells_length,ca_],by rw[Nat.mul_one,Zk (by simp[strCells_length,ca_])]⟩⟩ 22 underlying22 underlying5 9 underlying9
    have hg:=ho (wr.alloc (.cells #[.int .i64 pa,.int .i64 pf,.int .i64 pk] 156));have he:=hl (wr.alloc (.cells #[.int .i64 pa,.int .i64 pf,.int .i64 pk] 156));rw[show (wr.alloc (.cells #[.int .i64 pa,.int .i64 pf,.int .i64 pk] 156)).heap.size=wr.heap.size+1 by simp] at hg he;have hz:=ca_ pk;generalize zs pk=Z at *;clear ho hl;go_wp2;go_roundw
    case rel=>exact⟨k+1,s++Z,sH,sQ,by rw[ByteArray.size_append];omega,rfl,hc,sM⟩
    case measure=>simp[RowKit.intOf];omega
  ·obtain rfl:k=n:=sH;exact sy
end
section
open Go Go.RowKit Go.BigFrame Tryz
theorem jm_ {ps:List Pt}{e:List Ex}(h:Af 400 e=true):(Ax ps e).isSome=(Ae ps&&(cgo e ⟨#[]⟩ ps).isSome):=by
 unfold Ax
 cases hp:Ae ps<;>simp[h]
theorem lq{p:Prop}(h:p:=by
 cases kR:Ae x.ps
 ·rw[kR,Zr,Zr] at qh;go_wp2_with fail;refine ab_ sI sI ?_;repeat (go_big_quiet_step (first | (go_at_call 134;have qq:=qu;rw[qT] at qq;exact am_ (qq _)) | (go_at_call 135;have qq:=fun (u:World) (hu:Below wr.heap.size wr u)=>zQ u hu;rw[kR] at qq;exact an_ (qq _ (Aa qx (Grw.h _))))))
  refine wpQuiet_nil ?_;intro w2 hx;have qj:=Aa qx (ah_ hx);have x1':=Ab (ah_ hx) (show (wr.alloc (.cells #[.string x.nm,.slice qa qn qc] 125)).cell? ⟨wr.heap.size,1,none⟩=some (.slice qa qn qc) from X.cell 1);have C2:=C'.below qj;clear hx;go_wp2;go_returns;exact⟨by rw[qh.out];rfl,qF _ qj⟩
 ·rw[kR,Zp] at qh;obtain⟨kS,jr⟩:=gd_ kR;rw[hP.len] at kS;go_wp2_with fail;refine ab_ sI sI ?_;repeat (go_big_quiet_step (first | (go_at_call 134;have qq:=qu;rw[qT] at qq;exact am_ (qq _)) | (go_at_call 135;have qq:=fun (u:World) (hu:Below wr.heap.size wr u)=>zQ u hu;rw[kR] at qq;exact an_ (qq _ (Aa qx (Grw.h _))))))
  refine wpQuiet_nil ?_;intro w2 hx;have qj:=Aa qx (ah_ hx);have x1':=Ab (ah_ hx) (show (wr.alloc (.cells #[.string x.nm,.slice qa qn qc] 125)).cell? ⟨wr.heap.size,1,none⟩=some (.slice qa qn qc) from X.cell 1);have C2:=C'.below qj;clear hx;go_wp2_with fail;refine (eo_ qa qn qc x.ps ea en ec e _ (hP.below qj) (he.below (qF _ qj)) hstr kS hen jr).mono ?_;rintro e1 w3 ⟨qH,qk⟩;replace C2:=C2.below qk;replace qk:=Aa qj qk
  cases zY:cgo e ⟨#[]⟩ x.ps with
  |none=>
   rw[zY] at qH qh;replace qH:e1=.returned (.tuple #[.string ⟨#[]⟩,.bool false]):=qH;subst qH;clear zY;go_wp2;go_returns;exact⟨by rw[qh.out];rfl,qF _ qk⟩
  |some s=>
   rw[zY] at qH qh;replace qH:e1=.returned (.tuple #[.string s,.bool true]):=qH;subst qH;clear zY;go_wp2;go_roundw
   case rel=>exact⟨k+1,sH,sQ,by show _=_;rw[qh.out];rfl,C2,qF _ qk⟩
   case measure=>simp[intOf];omega):p:=h
theorem lF_ (B:Nat)(v:Vo)(pa:Option Addr)(pn pc:Nat)(ea:Option Addr)(en ec:Nat)(e:List Ex)(w:World)(h:BT B w pa pn v.its)(he:Cg w ea en e)(hstr:Strs e)(hen:en<=4194304)(hsp:Af 400 e=true)(hnm:v.nm.size<=9223372036854775807)(hpn:pn<=4194304)(hI:Ua v.its):
  Calls prog 91 #[.agg #[.int .i64 v.id,.string v.nm,.bool v.fx,.slice pa pn pc],.slice ea en ec] w fun x w'=>x=.returned (.bool (nameB v.nm&&itemsB v.its e))∧Below w.heap.size w w':=by
 obtain⟨id,nm,fx,its⟩:=v;simp only at h hnm hI ⊢;have qg:Hid (its.length=pn):=h.len
 cases hc:nameB nm
 ·go_enter func91,ntmps91;go_wp2_with fail;refine (aq_ nm _ hnm).mono ?_;rintro x w1 ⟨rfl,rfl⟩;rw[hc];go_wp2;go_returns;exact⟨rfl,sM⟩
 ·have hR:Hid ((true&&itemsB its e)=(decide (its.length<=5)&&igo e none its)):=by show _=_;rw[Zp];rfl
  generalize (true&&itemsB its e)=R at *;by_cases h5:pn<=5
  ·rw[qg.out,decide_eq_true h5,Zp] at hR;go_enter func91,ntmps91;go_wp2_with fail;refine (aq_ nm _ hnm).mono ?_;rintro x w1 ⟨rfl,qU⟩;rw[hc];have hj:Below w.heap.size w w1:=oG;have C:Blk w1 w.heap.size #[.int .i64 id,.string nm,.bool fx,.slice pa pn pc] 115:=by rw[qU];exact Blk.new w _ _
   have hg:=C.lt;clear qU;have c3:=C.cell 3;simp only[lgA,lgB,lgC] at c3;go_wp2_with fail;go_loopw [5] (fun ix wr=>∃ (k:Nat),k<=pn∧ix=.int .i64 k∧Hid (R=igo e (Ee its k) (its.drop k))∧Blk wr w.heap.size #[.int .i64 id,.string nm,.bool fx,.slice pa pn pc] 115∧Below w.heap.size w wr) (fun ix _=>pn-(intOf ix).toNat)
   case atStart=>exact⟨0,Zg _,rfl,hR,C,hj⟩
   case round=>
    clear c3;obtain⟨k,hk,rfl,hv,C',hB⟩:=hrel;have c3:=C'.cell 3;simp only[lgA,lgB,lgC] at c3;by_cases hg:k<pn
    ·obtain⟨b,o,x,qa,qn,qc,rfl,hx,c0,c1,hP,_,_,_⟩:=bO_ (h.below hB) hg;have qh:Hid (R=(nameB x.nm&&(match Ee its k with | none=>true | some p=>bl p.nm.toList x.nm.toList)&&(Ax x.ps e).isSome&&igo e (Ee its (k+1)) (its.drop (k+1)))):=by
      show _=_;rw[hv.out,al_ hx,hB_,hx];rfl
     rw[jm_ hsp] at qh;obtain⟨m1,m2⟩:=hI x (Zc hx);have hh:x.ps.length=qn:=hP.len;rw[hh] at m2;have hm:(k:Int)<pn:=sH;have hn:(0:Int)<=k:=sH;have ha:0<k->∃ y,Ee its k=some y∧wr.cell? ⟨b,o+(k-1)*2,none⟩=some (.string y.nm):=fun h0=>by
      exact mI
     have qF:∀ u:World,Below wr.heap.size wr u->Below w.heap.size w u:=fun u hu=>Aa hB hu;clear hx hv hh;have qu:=fun u:World=>aq_ x.nm u m1;have zQ:=fun (u:World) (hu:Below wr.heap.size wr u)=>i7_ qa qn qc x.ps u (hP.below hu) m2;have qx:Below wr.heap.size wr (wr.alloc (.cells #[.string x.nm,.slice qa qn qc] 125)):=sM;have X:=Blk.new wr #[.string x.nm,.slice qa qn qc] 125;have x0:∀ g:Grw (wr.alloc (.cells #[.string x.nm,.slice qa qn qc] 125)),g.w.cell? ⟨wr.heap.size,0,none⟩=some (.string x.nm):=Ad (X.cell 0);have x1:∀ g:Grw (wr.alloc (.cells #[.string x.nm,.slice qa qn qc] 125)),g.w.cell? ⟨wr.heap.size,1,none⟩=some (.slice qa qn qc):=Ad (X.cell 1);have x3:=Ad (Ab qx c3);have hp:=aA_ (wr.alloc (.cells #[.string x.nm,.slice qa qn qc] 125))
     cases qT:nameB x.nm
     ·rw[qT] at qh;go_wp2_with fail;refine ab_ sI sI ?_;repeat (go_big_quiet_step (first | (go_at_call 134;have qq:=qu;rw[qT] at qq;exact am_ (qq _))))
      exact pp
     ·rw[qT,Zp] at qh;by_cases hk0:0<k
      ·obtain⟨y,hy,d0⟩:=ha hk0;have y0:=Ad (Ab qx d0);rw[hy] at qh;have hb:decide ((0:Int)<(k:Int))=true:=decide_eq_true sH;have ho:((k:Int)-1).toNat=k-1:=sH
       cases hf:bl y.nm.toList x.nm.toList
       ·simp only[hf,Zr] at qh;go_wp2_with fail;refine ab_ sI sI ?_;repeat (go_big_quiet_step (first | (go_at_call 134;have qq:=qu;rw[qT] at qq;exact am_ (qq _))))
        refine wpQuiet_nil ?_;intro w2 hx;have qj:=Aa qx (ah_ hx);have x1':=Ab (ah_ hx) (show (wr.alloc (.cells #[.string x.nm,.slice qa qn qc] 125)).cell? ⟨wr.heap.size,1,none⟩=some (.slice qa qn qc) from X.cell 1);have C2:=C'.below qj;exact mD
       ·simp only[hf,Zp] at qh;exact lq
      ·have hl:Ee its k=none:=by unfold Ee;rw[if_pos sH]
       have hb:decide ((0:Int)<(k:Int))=false:=YV sH;rw[hl] at qh;simp only[Zp] at qh;exact lq
    ·exact pW
  ·rw[qg.out,YV h5,Zr] at hR;go_enter func91,ntmps91;go_wp2_with fail;refine (aq_ nm _ hnm).mono ?_;rintro x w1 ⟨rfl,rfl⟩;rw[hc];exact mz
end
section
open Go Go.RowKit
variable{next:Int}{e:List Ex}
def idB (next:Int)(q:Option Vo)(v:Vo):Bool:=decide (1<=v.id)&&decide (v.id<=1000000000)&&decide (v.id<next)&&(match q with | none=>true | some u=>decide (u.id<v.id))
def DD (u v:Vo):Bool:=u.nm.toList==v.nm.toList
def HZ (next:Int)(e:List Ex):List Vo->List Vo->Bool
 |_,[]=>true
 |seen,v::r=>idB next seen.getLast? v&&(nameB v.nm&&itemsB v.its e)&&!(seen.any (fun u=>DD u v))&&HZ next e (seen++[v]) r
def ndV:List Vo->List Vo->Bool
 |_,[]=>true
 |seen,v::r=>!(seen.any (fun u=>DD u v))&&ndV (seen++[v]) r
def FE (seen:List Vo):Int:=match seen.getLast? with | none=>0 | some u=>u.id
theorem mz_ (hn:next<=1000000000):∀ (vs seen:List Vo),(∀ u∈seen,1<=u.id)->HZ next e seen vs=(vgo next e (FE seen) vs&&ndV seen vs)
 |[],seen,_=>rfl
 |v::r,seen,hs=>by
  have ha:idB next seen.getLast? v=(decide (FE seen<v.id)&&decide (v.id<next)):=by
   unfold idB FE
   cases hl:seen.getLast? with
   |none=>rw[YH];simp;omega
   |some u=>
    have:=hs u (List.mem_of_getLast? hl);rw[YH];simp;omega
  by_cases hv:1<=v.id
  ·have ih:=mz_ hn r (seen++[v]) (fun u hu=>by
    rcases Zs.1 hu with hu | hu
    ·exact hs u hu
    ·simp at hu;subst hu;exact hv)
   have hl:FE (seen++[v])=v.id:=by simp[FE]
   rw[hl] at ih;simp only[HZ,vgo,ndV,ha,ih]
   cases decide (FE seen<v.id)<;>cases decide (v.id<next)<;>cases nameB v.nm<;>cases itemsB v.its e<;>cases vgo next e v.id r<;>cases (seen.any fun u=>DD u v)<;>simp
  ·have h0:decide (FE seen<v.id)=false:=by
    rw[YU];unfold FE
    cases hl:seen.getLast? with
    |none=>simp;omega
    |some u=>have:=hs u (List.mem_of_getLast? hl);simp;omega
   simp only[HZ,vgo,ha,h0,Zr]
theorem n9_:∀ (vs seen:List Vo),(seen.map (·.nm.toList)).Nodup->ndV seen vs=decide (((seen++vs).map (·.nm.toList)).Nodup)
 |[],seen,h=>by simp[ndV,h]
 |v::r,seen,h=>by
  cases ha:(seen.any fun u=>DD u v)
  ·have hb:v.nm.toList∉seen.map (·.nm.toList):=by
    intro hm;obtain⟨u,hu,he⟩:=ZT.1 hm;rw[List.any_eq_false] at ha;exact ha u hu (by simp[DD,he])
   have h2:((seen++[v]).map (·.nm.toList)).Nodup:=by
    rw[List.map_append,Yf];exact⟨h,sK,fun x hx y hy=>by simp at hy;subst hy;intro e;subst e;exact hb hx⟩
   have ih:=n9_ r (seen++[v]) h2;simp only[ndV,ha,Bool.not_false,Zp,ih,ZC,YF,ZM]
  ·have:¬ ((seen++v::r).map (·.nm.toList)).Nodup:=by
    intro hn;rw[List.map_append,Yf] at hn;obtain⟨u,hu,he⟩:=ZN.1 ha;exact hn.2.2 u.nm.toList (List.mem_map_of_mem hu) v.nm.toList sK (by simpa[DD] using he)
   simp only[ndV,ha,Bool.not_true,Zr];exact (YV this).symm
theorem kg_ {vs:List Vo}(hn:next<=1000000000):HZ next e [] vs=(vgo next e 0 vs&&ET vs):=by
 rw[mz_ hn vs [] (fun u hu=>by cases hu),n9_ vs [] List.nodup_nil];rfl
theorem mA_ (addr:Int):∀ (l:List Ex) (k:Nat),decide (atG addr k l<0)=!(l.any (fun x=>x.a==addr))
 |[],k=>by simp[atG]
 |x::r,k=>by
  cases hx:(x.a==addr)
  ·simp only[atG,hx,Zj,if_false,List.any_cons,Bool.false_or];exact mA_ addr r (k+1)
  ·simp only[atG,hx,if_true,List.any_cons,Bool.true_or,Bool.not_true,YU];omega
end
section
open Go Go.RowKit Go.BigFrame Tryz
variable{x:IR}{b:List Nat}{l:List Vo}{B cap i k n:Nat}{a:Option Addr}{p:Po}{v:Value}{y:Vo}{w w':World}
theorem ki_ (a:Option Addr)(n cap:Nat)(l:List Ct)(a':Option Addr)(n' cap':Nat)(m:List Ct)(w:World)(h:A8 w a n l)(h':A8 w a' n' m)(hn:n<=4194304)(hn':n'<=4194304):
  Calls prog 93 #[.slice a n cap,.slice a' n' cap'] w fun e w'=>e=.returned (.bool (BU l m))∧Below w.heap.size w w':=by
 have qg:Hid (l.length=n):=h.len;have qM:Hid (m.length=n'):=h'.len;by_cases hne:n=n'
 ·subst hne;have ha:((n:Int) != (n:Int))=false:=sK;go_enter func93,ntmps93;go_wp2_with fail;go_loopw [5] (fun ix wr=>∃ (k:Nat),k<=n∧ix=.int .i64 k∧Hid (BU l m=BU (l.drop k) (m.drop k))∧Below w.heap.size w wr) (fun ix _=>n-(intOf ix).toNat)
  case atStart=>exact⟨0,Zg _,rfl,rfl,Yg _ _⟩
  case round=>
   exact lF
 ·have ha:((n:Int) != (n':Int))=true:=sN;go_enter func93,ntmps93;exact pS
theorem nf_ (h:i<=l.length):(l.take i).getLast?=if i=0 then none else l[i-1]?:=by
 rw[List.getLast?_eq_getElem?,Zz,ZZ h];split
 ·subst_vars;simp
 ·rw[Ya sH]
theorem lJ{p:Prop}(h:p:=by
 rw[hf] at qh;simp only[Zr] at qh;go_wp2_with fail;refine ab_ sI sI ?_;repeat (go_big_quiet_step (first | (go_at_call 85;have qq:=fun u:World=>ai_ x.id 1 1000000000 u;rw[zg] at qq;exact am_ (qq _))))
 refine wpQuiet_nil ?_;intro w2 zw;have qj:=Aa qx (ah_ zw);have kU:=Ab (ah_ zw) X1;have C2:=C'.below qj;clear zw;go_wp2;go_returns;exact⟨by rw[hR.out,qh.out];rfl,Aa hB qj⟩):p:=h
theorem lQ{p:Prop}(h:p:=by refine wpQuiet_nil ?_;intro w2 zw;have qj:=Aa qx (ah_ zw);have kU:=Ab (ah_ zw) X1;have C2:=C'.below qj;clear zw;go_wp2;go_returns;exact⟨by rw[hR.out,qh.out];rfl,Aa hB qj⟩):p:=h
theorem mi{p:Prop}(h:p:=by
 simp only[Zr] at hR;go_enter func45,ntmps45;go_wp2_with fail;refine (aT_ size ea en ec ex _ (h1.below sM) z2 z1).mono ?_;rintro e w1 ⟨rfl,rfl⟩;rw[hok];go_wp2_with fail
 refine (ai_ next 1 1000000000 _).mono ?_;rintro e w1 ⟨rfl,rfl⟩;rw[qT];go_wp2;go_returns;exact⟨rG,sM⟩):p:=h
theorem mo{p:Prop}(h:p:=by
 obtain rfl:k=i:=sH;have qP:(vs.take k).any (fun u=>DD u x)=false:=by rw[hJ.out,Ze sN];rfl
 rw[qP] at qh;simp only[Bool.not_false,Zp] at qh;go_wp2;go_roundw
 case rel=>exact⟨k+1,sH,sQ,qh,C3,Aa hBw zG⟩
 case measure=>simp[intOf];omega):p:=h
theorem dS{p:Prop}(h:p:=by show _=_;rw[jC.out,hd.out,List.all_cons,qP];rfl):p:=h
theorem dW{p:Prop}(h:p:=by show _=_;rw[hJ.out,hd.out,List.all_cons,qP];rfl):p:=h
theorem dY{p:Prop}(h:p:=by first | exact Nat.le_succ _ | (simp;omega) | simp):p:=h
theorem ep_ (B:Nat)(hB0:0<B)(v:Value)(p:Po)(w:World)(h:AC B w v p)(hd:A7 p):
  Calls prog 45 #[v] w fun e w'=>e=.returned (.bool (Ai p))∧Below w.heap.size w w':=by
 obtain⟨ea,en,ec,va,vn,vc,ra,rn,rc,la,ln,lc,rfl,⟨h1,k1⟩,⟨h2,k2⟩,⟨h3,k3⟩,h4,k4⟩:=h;obtain⟨z1,z2,z3,z4,z5,z6,z7,z8⟩:=hd;rw[h1.len] at z1;rw[h2.len] at z3;rw[h3.len] at z5;rw[h4.len] at z7;have n2:Hid (p.vs.length=vn):=h2.len;have n1:Hid (p.ex.length=en):=h1.len;obtain⟨size,next,ex,vs,rf,lt⟩:=p;simp only at h1 h2 h3 h4 z2 z4 z6 z8 n1 n2;have hR:Hid (Ai ⟨size,next,ex,vs,rf,lt⟩=(Af size ex&&decide (1<=next)&&decide (next<=1000000000)&&(decide (vs.length<=6)&&vgo next ex 0 vs)&&ET vs&&(match As rf lt with | none=>false | some s=>BU s (A9 vs))&&DW ex (rf++lt))):=rfl;generalize Ai ⟨size,next,ex,vs,rf,lt⟩=R at *
 cases hok:Af size ex
 ·rw[hok] at hR;simp only[Zr] at hR;go_enter func45,ntmps45;go_wp2_with fail;refine (aT_ size ea en ec ex _ (h1.below sM) z2 z1).mono ?_;rintro e w1 ⟨rfl,rfl⟩;rw[hok];exact mz
 ·rw[hok,Zp] at hR
  cases qT:(decide (1<=next)&&decide (next<=1000000000))
  ·rw[qT] at hR;exact mi
  ·rw[qT,Zp] at hR;have hK:1<=next∧next<=1000000000:=by simpa using qT
   by_cases h6:vn<=6
   ·rw[n2.out,decide_eq_true h6,Zp,<-kg_ hK.2] at hR;have zb:=iI_ hok;go_enter func45,ntmps45;go_wp2_with fail;refine (aT_ size ea en ec ex _ (h1.below sM) z2 z1).mono ?_;rintro e w1 ⟨rfl,qU⟩;rw[hok];have C:Blk w1 w.heap.size #[.int .i64 size,.int .i64 next,.slice ea en ec,.slice va vn vc,.slice ra rn rc,.slice la ln lc] 33:=by rw[qU];exact Blk.new w _ _
    have qi:Below w.heap.size w w1:=oG;clear qU;have c1:=C.cell 1;have c3:=C.cell 3;simp only[lgA,lgB,lgC] at c1 c3;go_wp2_with fail;refine (ai_ next 1 1000000000 _).mono ?_;rintro e w2 ⟨rfl,rfl⟩;rw[qT];go_wp2_with fail;generalize hM:(match As rf lt with | none=>false | some s=>BU s (A9 vs))=M at *;generalize hN:DW ex (rf++lt)=AD at *;replace hM:Hid ((match As rf lt with | none=>false | some s=>BU s (A9 vs))=M):=hM;replace hN:Hid (DW ex (rf++lt)=AD):=hN;have hS:Hid (HZ next ex [] vs=HZ next ex (vs.take 0) (vs.drop 0)):=rfl;have q8:Hid (HZ next ex [] vs=(vgo next ex 0 vs&&ET vs)):=kg_ hK.2;generalize HZ next ex [] vs=S at *;go_loopw [3] (fun ix wr=>∃ (i:Nat),i<=vn∧ix=.int .i64 i∧Hid (S=HZ next ex (vs.take i) (vs.drop i))∧Blk wr w.heap.size #[.int .i64 size,.int .i64 next,.slice ea en ec,.slice va vn vc,.slice ra rn rc,.slice la ln lc] 33∧Below w.heap.size w wr) (fun ix _=>vn-(intOf ix).toNat)
    case atStart=>exact⟨0,Zg _,rfl,hS,C,qi⟩
    case round=>
     clear c1 c3 C qi hS;obtain⟨i,hi,rfl,hI,C',hB⟩:=hrel;have d1:=C'.cell 1;have d2:=C'.cell 2;have d3:=C'.cell 3;simp only[lgA,lgB,lgC] at d1 d2 d3;by_cases hlt:i<vn
     ·obtain⟨b,o,x,qa,qn,qc,rfl,hx,e0,e1,e2,e3,hP,_,_⟩:=b5_ (h2.below hB) hlt;have qh:Hid (S=(idB next (if i=0 then none else vs[i-1]?) x&&(nameB x.nm&&itemsB x.its ex)&&!((vs.take i).any (fun u=>DD u x))&&HZ next ex (vs.take (i+1)) (vs.drop (i+1)))):=by
       show _=_;rw[hI.out,al_ hx,HZ,nf_ (by rw[n2.out];omega),bx_ hx]
      obtain⟨m1,m2,m3⟩:=z4 x (Zc hx);rw[hP.len] at m2;have hq:=fun (u:World) (hu:Below wr.heap.size wr u)=>lF_ B x qa qn qc ea en ec ex u (hP.below hu) ((h1.below hB).below hu) z2 z1 zb m1 m2 m3;have qp:(i:Int)<vn:=sH;have qr:(0:Int)<=i:=sH;have hL:0<i->∃ y,vs[i-1]?=some y∧wr.cell? ⟨b,o+(i-1)*4,none⟩=some (.int .i64 y.id):=fun h0=>by
       obtain⟨b',o',y,_,_,_,qW,hy,f0,_⟩:=b5_ (h2.below hB) (show i-1<vn by omega);obtain⟨rfl,rfl⟩:b=b'∧o=o':=rE;exact⟨y,hy,f0⟩
      clear hx hI;have qx:Below wr.heap.size wr (wr.alloc (.cells #[.int .i64 x.id,.string x.nm,.bool x.fx,.slice qa qn qc] 115)):=sM;have X:=Blk.new wr #[.int .i64 x.id,.string x.nm,.bool x.fx,.slice qa qn qc] 115;have X0:(wr.alloc (.cells #[.int .i64 x.id,.string x.nm,.bool x.fx,.slice qa qn qc] 115)).cell? ⟨wr.heap.size,0,none⟩=some (.int .i64 x.id):=X.cell 0;have X1:(wr.alloc (.cells #[.int .i64 x.id,.string x.nm,.bool x.fx,.slice qa qn qc] 115)).cell? ⟨wr.heap.size,1,none⟩=some (.string x.nm):=X.cell 1;have X2:(wr.alloc (.cells #[.int .i64 x.id,.string x.nm,.bool x.fx,.slice qa qn qc] 115)).cell? ⟨wr.heap.size,2,none⟩=some (.bool x.fx):=X.cell 2;have X3:(wr.alloc (.cells #[.int .i64 x.id,.string x.nm,.bool x.fx,.slice qa qn qc] 115)).cell? ⟨wr.heap.size,3,none⟩=some (.slice qa qn qc):=X.cell 3;have g0:=Ad X0;have g1:=Ad X1;have g2:=Ad X2;have g3:=Ad X3;have g5:=Ad (Ab qx d1);have g6:=Ad (Ab qx d2);have g7:=Ad (Ab qx d3);have hs:=aA_ (wr.alloc (.cells #[.int .i64 x.id,.string x.nm,.bool x.fx,.slice qa qn qc] 115))
      cases zg:(decide (1<=x.id)&&decide (x.id<=1000000000))
      ·have hf:idB next (if i=0 then none else vs[i-1]?) x=false:=by unfold idB;rw[zg];simp
       exact lJ
      ·by_cases hnb:x.id<next
       ·have h7:decide (next<=x.id)=false:=YV sH;by_cases h0:0<i
        ·obtain⟨y,hy,f0⟩:=hL h0;have g8:=Ad (Ab qx f0);have q6:decide ((0:Int)<(i:Int))=true:=decide_eq_true sH;have zm:((i:Int)-1).toNat=i-1:=sH;rw[if_neg sH,hy] at qh;by_cases hyx:y.id<x.id
         ·have h9:decide (x.id<=y.id)=false:=YV sH;have hf:idB next (some y) x=true:=by unfold idB;rw[zg];simp[hnb,hyx]
          rw[hf] at qh;simp only[Zp] at qh
          cases hp:(nameB x.nm&&itemsB x.its ex)
          ·rw[hp] at qh;simp only[Zr] at qh;go_wp2_with fail;refine ab_ sI sI ?_;repeat (go_big_quiet_step (first | (go_at_call 85;have qq:=fun u:World=>ai_ x.id 1 1000000000 u;rw[zg] at qq;exact am_ (qq _)) | (go_at_call 91;have qq:=fun (u:World) (hu:Below wr.heap.size wr u)=>hq u hu;rw[hp] at qq;exact an_ (qq _ (Aa qx (Grw.h _))))))
           exact lQ
          ·rw[hp] at qh;simp only[Zp] at qh;go_wp2_with fail;refine ab_ sI sI ?_;repeat (go_big_quiet_step (first | (go_at_call 85;have qq:=fun u:World=>ai_ x.id 1 1000000000 u;rw[zg] at qq;exact am_ (qq _)) | (go_at_call 91;have qq:=fun (u:World) (hu:Below wr.heap.size wr u)=>hq u hu;rw[hp] at qq;exact an_ (qq _ (Aa qx (Grw.h _))))))
           refine wpQuiet_nil ?_;intro w2 zw;have qj:=Aa qx (ah_ zw);have kU:=Ab (ah_ zw) X1;have C2:=C'.below qj;clear zw;have hBw:=Aa hB qj;clear qj qx g0 g1 g2 g3 g5 g6 g7 hs X X0 X1 X2 X3;go_wp2_with fail;go_loopw [5] (fun ix wq=>∃ (k:Nat),k<=i∧ix=.int .i64 k∧Hid ((vs.take i).any (fun u=>DD u x)=((vs.take i).drop k).any (fun u=>DD u x))∧Below w2.heap.size w2 wq) (fun ix _=>i-(intOf ix).toNat)
           case atStart=>exact⟨0,Zg _,rfl,rfl,Yg _ _⟩
           case round=>
            obtain⟨k,hk,rfl,hJ,zG⟩:=hrel;have C3:=C2.below zG;have y3:=C3.cell 3;simp only[lgA,lgB,lgC] at y3;have y1:=Ab zG kU;by_cases hlk:k<i
            ·obtain⟨b',o',u,_,_,_,qW,hu,_,f1,_,_,_,_,_⟩:=b5_ (h2.below (Aa hBw zG)) (show k<vn by omega);obtain⟨rfl,rfl⟩:b=b'∧o=o':=rE;have qs:(vs.take i)[k]?=some u:=by rw[Ya hlk];exact hu
             have hQ:Hid ((vs.take i).any (fun u=>DD u x)=(DD u x||((vs.take i).drop (k+1)).any (fun u=>DD u x))):=by show _=_;rw[hJ.out,al_ qs];rfl
             clear hu qs qW hJ;have q9:(k:Int)<vn:=sH;have za:(0:Int)<=k:=sH;have ht:DD u x=(u.nm.toList==x.nm.toList):=rfl
             cases hU:(u.nm.toList==x.nm.toList)
             ·rw[ht,hU,Bool.false_or] at hQ;have h8:¬ u.nm.toList=x.nm.toList:=by simpa using hU
              go_wp2_with fail;go_quiet (fail);have hZ:=Aa zG (Bj _ nq);go_wp2;go_roundw
              case rel=>exact⟨k+1,sH,sQ,hQ,hZ⟩
              case measure=>simp[intOf];omega
             ·rw[ht,hU,Bool.true_or] at hQ;have h8:u.nm.toList=x.nm.toList:=by simpa using hU
              rw[hQ.out] at qh;simp only[Bool.not_true,Zr] at qh;go_wp2_with fail;go_quiet (fail);have hZ:=Aa zG (Bj _ nq);go_wp2;go_returns;exact⟨by rw[hR.out,qh.out];rfl,Aa hBw hZ⟩
            ·exact mo
         ·have h9:decide (x.id<=y.id)=true:=decide_eq_true sH;have hf:idB next (some y) x=false:=by unfold idB;simp[hyx]
          exact lJ
        ·have q6:decide ((0:Int)<(i:Int))=false:=YV sH;rw[if_pos sH] at qh;have hf:idB next none x=true:=by unfold idB;rw[zg];simp[hnb]
         rw[hf] at qh;simp only[Zp] at qh
         cases hp:(nameB x.nm&&itemsB x.its ex)
         ·rw[hp] at qh;simp only[Zr] at qh;go_wp2_with fail;refine ab_ sI sI ?_;repeat (go_big_quiet_step (first | (go_at_call 85;have qq:=fun u:World=>ai_ x.id 1 1000000000 u;rw[zg] at qq;exact am_ (qq _)) | (go_at_call 91;have qq:=fun (u:World) (hu:Below wr.heap.size wr u)=>hq u hu;rw[hp] at qq;exact an_ (qq _ (Aa qx (Grw.h _))))))
          exact lQ
         ·rw[hp] at qh;simp only[Zp] at qh;go_wp2_with fail;refine ab_ sI sI ?_;repeat (go_big_quiet_step (first | (go_at_call 85;have qq:=fun u:World=>ai_ x.id 1 1000000000 u;rw[zg] at qq;exact am_ (qq _)) | (go_at_call 91;have qq:=fun (u:World) (hu:Below wr.heap.size wr u)=>hq u hu;rw[hp] at qq;exact an_ (qq _ (Aa qx (Grw.h _))))))
          refine wpQuiet_nil ?_;intro w2 zw;have qj:=Aa qx (ah_ zw);have kU:=Ab (ah_ zw) X1;have C2:=C'.below qj;clear zw;have hBw:=Aa hB qj;clear qj qx g0 g1 g2 g3 g5 g6 g7 hs X X0 X1 X2 X3;go_wp2_with fail;go_loopw [5] (fun ix wq=>∃ (k:Nat),k<=i∧ix=.int .i64 k∧Hid ((vs.take i).any (fun u=>DD u x)=((vs.take i).drop k).any (fun u=>DD u x))∧Below w2.heap.size w2 wq) (fun ix _=>i-(intOf ix).toNat)
          case atStart=>exact⟨0,Zg _,rfl,rfl,Yg _ _⟩
          case round=>
           obtain⟨k,hk,rfl,hJ,zG⟩:=hrel;have C3:=C2.below zG;have y3:=C3.cell 3;simp only[lgA,lgB,lgC] at y3;have y1:=Ab zG kU;by_cases hlk:k<i
           ·exact absurd hlk sH
           ·exact mo
       ·have h7:decide (next<=x.id)=true:=decide_eq_true sH;have hf:idB next (if i=0 then none else vs[i-1]?) x=false:=by unfold idB;simp[hnb]
        exact lJ
     ·obtain rfl:i=vn:=sH;have d4:=C'.cell 4;have d5:=C'.cell 5;simp only[lgA,lgB,lgC] at d4 d5;have ql:S=true:=by rw[hI.out,Ze (Zm n2.out)];rfl
      have zd:vgo next ex 0 vs=true:=by have:=q8.out;rw[ql] at this;simp at this;exact this.1
      have zc:=g2_ (by rw[n2.out];omega) zd;rw[ql,Zp] at hR;go_wp2_with fail;refine (je_ ra rn rc rf la ln lc lt _ (h3.below hB) (k3.1.2.2 hB0).2 (k3.1.2.2 hB0).1 (h4.below hB) z6 z8 z5 z7).mono ?_;rintro e wf ⟨hg,hz⟩;have C4:=C'.below hz;replace hz:=Aa hB hz;clear d1 d2 d3 d4 d5 C' hB
      cases ho:As rf lt with
      |none=>
       rw[ho] at hg hM;replace hg:e=.returned (.tuple #[.slice none 0 0,.bool false]):=hg;subst hg;have q7:M=false:=hM.out.symm;rw[q7] at hR;clear ho;go_wp2;go_returns;exact⟨rG,hz⟩
      |some sm=>
       rw[ho] at hg hM;replace hM:Hid (BU sm (A9 vs)=M):=hM;obtain⟨a3,n3,cap3,rfl,R3⟩:=hg;have zn:n3<=200:=by
        have hl:=R3.sl.len;unfold As at ho;split at ho
        ·split at ho
         ·rename_i hh;obtain rfl:=Zi ho;have:=(a0_ hh).1;omega
         ·cases ho
        ·cases ho
       clear ho;have d3:=C4.cell 3;simp only[lgA,lgB,lgC] at d3;go_wp2_with fail;refine (ir_ B va i vc vs _ (h2.below hz) zc).mono ?_;rintro e wg ⟨⟨a4,n4,cap4,rfl,zv,R4⟩,hD⟩;replace R3:=R3.below hD;replace C4:=C4.below hD;replace hD:=Aa hz hD;clear d3 hz;go_wp2_with fail;refine (ki_ a3 n3 cap3 sm a4 n4 cap4 (A9 vs) _ R3.sl R4.sl sH sH).mono ?_;rintro e wh ⟨rfl,hE⟩;rw[hM.out];replace C4:=C4.below hE;replace hE:=Aa hD hE;clear R3 R4 hD hM
       cases M
       ·go_wp2;go_returns;exact⟨rG,hE⟩
       ·rw[Zp] at hR;go_wp2_with fail;have qf:Hid (AD=((ex.drop 0).all (fun x=>(rf++lt).any (fun c=>c.o.a==x.a))&&(rf++lt).all (fun c=>ex.any (fun x=>x.a==c.o.a)))):=hN.out.symm;clear hN;generalize hO:(rf++lt).all (fun c=>ex.any (fun x=>x.a==c.o.a))=AL at *;replace hO:Hid ((rf++lt).all (fun c=>ex.any (fun x=>x.a==c.o.a))=AL):=hO;go_loopw [8] (fun ix wr=>∃ (k:Nat),k<=en∧ix=.int .i64 k∧Hid (AD=((ex.drop k).all (fun x=>(rf++lt).any (fun c=>c.o.a==x.a))&&AL))∧Blk wr w.heap.size #[.int .i64 size,.int .i64 next,.slice ea en ec,.slice va i vc,.slice ra rn rc,.slice la ln lc] 33∧Below w.heap.size w wr) (fun ix _=>en-(intOf ix).toNat)
        case atStart=>exact⟨0,Zg _,rfl,qf,C4,hE⟩
        case round=>
         clear C4 hE qf;obtain⟨k,hk,rfl,jC,C5,hr⟩:=hrel;have d0:=C5.cell 0;have d1:=C5.cell 1;have d2:=C5.cell 2;have d3:=C5.cell 3;have d4:=C5.cell 4;have d5:=C5.cell 5;simp only[lgA,lgB,lgC] at d0 d1 d2 d3 d4 d5;by_cases hlt:k<en
         ·obtain⟨b,o,x,rfl,hx,c0,c1⟩:=be_ (h1.below hr) hlt;have hd:Hid (ex.drop k=x::ex.drop (k+1)):=al_ hx;have qp:(k:Int)<en:=sH;have qr:(0:Int)<=k:=sH;clear hx c1;have ha:=fun (u:World) (hu:Below wr.heap.size wr u)=>gJ_ size next (some ⟨b,o,none⟩) en ec va i vc ra rn rc la ln lc rf lt x.a u ((h3.below hr).below hu) ((h4.below hr).below hu) z5 z7;have g0:=Ad d0;have g1:=Ad d1;have g2:=Ad d2;have g3:=Ad d3;have g4:=Ad d4;have g5:=Ad d5;have gx:=Ad c0;have hs:=aA_ wr
          cases qP:(rf++lt).any (fun c=>c.o.a==x.a)
          ·have hC:Hid (AD=false):=dS;go_wp2_with fail;refine ab_ sI sI ?_;repeat (go_big_quiet_step (first | (go_at_call 95;have qq:=ha;rw[qP] at qq;exact an_ (qq _ (Grw.h _)))))
           refine wpQuiet_nil ?_;intro w6 hm;have hw:=Aa hr (ah_ hm);clear hm g0 g1 g2 g3 g4 g5 gx hs qP ha;go_wp2;go_returns;exact⟨by rw[hR.out,hC.out];rfl,hw⟩
          ·have hC:Hid (AD=((ex.drop (k+1)).all (fun x=>(rf++lt).any (fun c=>c.o.a==x.a))&&AL)):=dS;go_wp2_with fail;refine ab_ sI sI ?_;repeat (go_big_quiet_step (first | (go_at_call 95;have qq:=ha;rw[qP] at qq;exact an_ (qq _ (Grw.h _)))))
           refine wpQuiet_nil ?_;intro w6 hm;have C6:=C5.below (ah_ hm);have hw:=Aa hr (ah_ hm);clear hm g0 g1 g2 g3 g4 g5 gx hs qP ha;go_wp2;go_roundw
           case rel=>exact⟨k+1,sH,sQ,hC,C6,hw⟩
           case measure=>simp[intOf];omega
         ·obtain rfl:k=en:=sH;have hC:Hid (AD=AL):=by show _=_;rw[jC.out,Ze (Zm n1.out)];rfl
          clear jC;obtain⟨wi,zi⟩:∃ x,x=wr:=⟨_,rfl⟩;subst zi;have zl:=C5.lt;obtain⟨i0,qm,q0,q1,q2⟩:=info_parts JM;go_wp2_with fail
          go_region_held3 (fun u=>u.cell? ⟨w.heap.size,4,none⟩=some (.slice ra rn rc)∧u.cell? ⟨w.heap.size,5,none⟩=some (.slice la ln lc)) (go_keep) (first
           |(refine aJ_ rfl (ay_ _ _ 31 rfl wi.heap.size 70 i0 (.agg #[.int .i64 0,.int .i64 0,.string .empty,.int .i64 0]) 40 underlying31 qm q0 q1 q2 rfl sJ aS_ a9_ a11 rn cap11 ([]++rf) rfl hW la ln lc lt rfl (h4.below (Aa hr hb)) (k4.1.2.2 hB0).2 (k4.1.2.2 hB0).1 (rn+ln) rfl sO sH hA ?_);intro a13 cap13 hV qb hH;have hn:Below wi.heap.size wi hV:=(Yi hb hH hA (aG_ fun ad h5=>(hW.block ad h5).1));have y14:=Ab hn d4;have y15:=Ab hn d5)
           |(refine aJ_ rfl (ay_ _ _ 31 rfl wi.heap.size 70 i0 (.agg #[.int .i64 0,.int .i64 0,.string .empty,.int .i64 0]) 40 underlying31 qm q0 q1 q2 rfl sJ aS_ a9_ _ 0 0 [] rfl (by first | exact aw_ (Blk.new' wi _ _ _ rfl).drew (Zd _) | exact aw_ (Blk.new' wi _ _ _ rfl) (Zd _)) ra rn rc rf rfl (h3.below (Aa hr sM)) (k3.1.2.2 hB0).2 (k3.1.2.2 hB0).1 rn (Zq _) sO sH dY ?_);intro a11 cap11 q3 hW hG;have hb:Below wi.heap.size wi q3:=(Yi sM hG dY (aG_ fun ad h5=>(by cases h5;exact Zd _)));have hA:wi.heap.size<=q3.heap.size:=hb.size;have y4:=Ab hb d4;have y5:=Ab hb d5))
          have q4:=C5.below hn;have hY:=Aa hr hn;clear y4 y5 hb hA hW hG hH hn d0 d1 d2 d3 d4 d5 C5 zl;have L13:A8 hV a13 (rn+ln) (rf++lt):=qb.sl;have n13:Hid ((rf++lt).length=rn+ln):=L13.len;clear qb;have hF:Hid (AL=((rf++lt).drop 0).all (fun c=>ex.any (fun x=>x.a==c.o.a))):=hO.out.symm;clear hO;go_wp2_with fail;go_loopw [10] (fun ix wq=>∃ (j:Nat),j<=rn+ln∧ix=.int .i64 j∧Hid (AL=((rf++lt).drop j).all (fun c=>ex.any (fun x=>x.a==c.o.a)))∧Below hV.heap.size hV wq) (fun ix _=>rn+ln-(intOf ix).toNat)
          case atStart=>exact⟨0,Zg _,rfl,hF,Yg _ _⟩
          case round=>
           clear hF;obtain⟨j,hj,rfl,hJ,zG⟩:=hrel;have q5:=q4.below zG;have d2:=q5.cell 2;simp only[lgA,lgB,lgC] at d2;have hv:=Aa hY zG;by_cases hlj:j<rn+ln
           ·obtain⟨b,o,c,rfl,hc,c0,_,_,_⟩:=aN_ (L13.below zG) hlj;have hd:Hid ((rf++lt).drop j=c::(rf++lt).drop (j+1)):=al_ hc;have qp:(j:Int)<((rn+ln:Nat):Int):=sH;have qr:(0:Int)<=j:=sH;clear hc;have hT:=fun (u:World) (hu:Below wr.heap.size wr u)=>iC_ ea k ec ex c.o.a u ((h1.below hv).below hu) z1;have he:=mA_ c.o.a ex 0;have g2:=Ad d2;have gx:=Ad c0;have hs:=aA_ wr
            cases qP:ex.any (fun x=>x.a==c.o.a)
            ·have hX:Hid (AL=false):=dW;rw[qP] at he;replace he:decide (atG c.o.a 0 ex<0)=true:=he;go_wp2_with fail;refine ab_ sI sI ?_;repeat (go_big_quiet_step (first | (go_at_call 96;exact am_ (hT _ (Grw.h _)))))
             refine wpQuiet_nil ?_;intro w6 hm;have hw:=Aa hv (ah_ hm);clear hm g2 gx hs qP hT;go_wp2;go_returns;exact⟨by rw[hR.out,hC.out,hX.out];rfl,hw⟩
            ·have hX:Hid (AL=((rf++lt).drop (j+1)).all (fun c=>ex.any (fun x=>x.a==c.o.a))):=dW;rw[qP] at he;replace he:decide (atG c.o.a 0 ex<0)=false:=he;go_wp2_with fail;refine ab_ sI sI ?_;repeat (go_big_quiet_step (first | (go_at_call 96;exact am_ (hT _ (Grw.h _)))))
             refine wpQuiet_nil ?_;intro w6 hm;have hw:=Aa zG (ah_ hm);clear hm g2 gx hs qP hT;go_wp2;go_roundw
             case rel=>exact⟨j+1,sH,sQ,hX,hw⟩
             case measure=>simp[intOf];omega
           ·obtain rfl:j=rn+ln:=sH;go_wp2;go_returns;exact⟨by rw[hR.out,hC.out,hJ.out,Ze (Zm n13.out)];rfl,hv⟩
   ·rw[n2.out,YV h6] at hR;exact mi
end
end Go.Proofs.YteejlahappbalaaGreatDoor
