/- The laws' comparisons of lists of items and volumes, where they are the same. -/
import Derived.Test.YtkiceokhlceciaaGreatDoorU04
import Derived.Test.YtkiceokhlceciaaGreatDoorU08
set_option maxHeartbeats 20000000
set_option maxRecDepth 100000
namespace Go.Proofs.YtkiceokhlceciaaGreatDoor
section
open Go Go.RowKit Go.BigFrame Tryz
variable{α:Type}{c:Array Value}{l:List Vo}{B b cap i j k n:Nat}{a:Option Addr}{p:Po}{out v:Value}{w w':World}{x:α}{cs:α->List Value}
def Kq (l:List Vo):Prop:=l.length<=7∧∀ v∈l,v.its.length<=6∧∀ x∈v.its,x.ps.length<=1000∧∀ p∈x.ps,0<=p.a
theorem Gc.wide (h:Gc l):Kq l:=⟨by have:=h.1;omega,fun v hv=>⟨by have:=(h.2 v hv).1;omega,fun x hx=>⟨by have:=((h.2 v hv).2 x hx).1;omega,((h.2 v hv).2 x hx).2⟩⟩⟩
theorem ke_ (l a b:List Ct):A7 l (a++b)=A7 (A7 l a) b:=by simp[A7]
theorem lE_ {v:Vo}(h:l[i]?=some v):BP (l.take (i+1))=BP (l.take i)++BK v v.its:=by
 unfold BP;rw[bx_ h,ZQ];simp[G9,BK]
theorem bA_ (B:Nat)(a:Option Addr)(n cap:Nat)(vs:List Vo)(w:World)(h:Bp B w a n vs)(ht:Kq vs):
  Calls prog 54 #[.slice a n cap] w fun e w'=>(∃ a' n' cap',e=.returned (.slice a' n' cap')∧n'<=42000∧(∀ x∈A9 vs,-42000000<=x.n∧x.n<=42000000)∧Ad Ct.cs 4 68 w' w.heap.size a' n' cap' (A9 vs))∧Below w.heap.size w w':=by
 have hg:Hid (vs.length=n):=h.len;have hN:n<=7:=by rw[<-hg.out];exact ht.1
 go_enter func54,ntmps54
 go_wp2_with fail
 go_loopw [3,4] (fun out ix wr=>∃ (i:Nat),i<=n∧ix=.int .i64 i∧Fnd wr w.heap.size out (A7 [] (BP (vs.take i))) (6000*i)∧Below w.heap.size w wr) (fun _ ix _=>n-(intOf ix).toNat)
 case atStart=>exact⟨0,Zg _,rfl,⟨⟨_,0,0,rfl,Zg _,aw_ (Blk.new' _ _ _ _ rfl) (Zd _)⟩,fun x hx=>by cases hx⟩,(Yg _ _).alloc (Zd _) _⟩
 case round=>
  obtain⟨i,hi,rfl,hF,hB⟩:=hrel;obtain⟨wi,hC⟩:∃ x,x=wr:=⟨_,rfl⟩;subst hC;by_cases hlt:i<n
  ·obtain⟨b,o,v,ia,inn,icp,rfl,hv,c0,c1,c2,c3,hI,_,_⟩:=b5_ (h.below hB) hlt;obtain⟨t1,t2⟩:=ht.2 v (Zc hv);have hr:Hid (v.its.length=inn):=hI.len;rw[hr.out] at t1;have hE:(i:Int)<n:=by omega
   have hG:(0:Int)<=i:=by omega
   have hl:Hid (BP (vs.take (i+1))=BP (vs.take i)++BK v v.its):=lE_ hv;clear hv;generalize BP (vs.take i)=PA at *
   go_wp2_with fail
   go_loopw [3,5] (fun out ix wk=>∃ (k:Nat),k<=inn∧ix=.int .i64 k∧Fnd wk w.heap.size out (A7 [] (PA++BK v (v.its.take k))) (6000*i+1000*k)∧Below wi.heap.size wi wk) (fun _ ix _=>inn-(intOf ix).toNat)
   case atStart=>exact⟨0,Zg _,rfl,by simpa[BK] using hF,Yg _ _⟩
   case round=>
    clear hF;obtain⟨k,hk,rfl,hF,hc⟩:=hrel;obtain⟨wk,hD⟩:∃ x,x=wr:=⟨_,rfl⟩;subst hD;have e0:=Ab hc c0;have e3:=Ab hc c3;by_cases hlk:k<inn
    ·obtain⟨b',o',x,pa,pn,pc,rfl,hx,d0,d1,hP,_,_,_⟩:=bO_ (hI.below hc) hlk;obtain⟨u1,u2⟩:=t2 x (Zc hx);have hs:Hid (x.ps.length=pn):=hP.len;rw[hs.out] at u1;have hK:(k:Int)<inn:=by omega
     have hL:(0:Int)<=k:=by omega
     have hm:Hid (BK v (v.its.take (k+1))=BK v (v.its.take k)++AU v.id x.nm x.ps):=fq_ hx;clear hx;generalize BK v (v.its.take k)=PI at *
     go_wp2_with fail
     have he:Below wk.heap.size wk (wk.alloc (.cells #[.string x.nm,.slice pa pn pc] 122)):=by go_grown
     have X0:(wk.alloc (.cells #[.string x.nm,.slice pa pn pc] 122)).cell? ⟨wk.heap.size,0,none⟩=some (.string x.nm):=(Blk.new wk #[.string x.nm,.slice pa pn pc] 122).cell 0;have X1:(wk.alloc (.cells #[.string x.nm,.slice pa pn pc] 122)).cell? ⟨wk.heap.size,1,none⟩=some (.slice pa pn pc):=(Blk.new wk #[.string x.nm,.slice pa pn pc] 122).cell 1;have E0:=Ab he e0;have hy:=hP.below he;have hq:=hF.below he;generalize wk.alloc (.cells #[.string x.nm,.slice pa pn pc] 122)=W0 at *
     go_loopw [3,7] (fun out ix wj=>∃ (j:Nat),j<=pn∧ix=.int .i64 j∧Fnd wj w.heap.size out (A7 [] (PA++PI++AU v.id x.nm (x.ps.take j))) (6000*i+1000*k+j)∧Below W0.heap.size W0 wj) (fun _ ix _=>pn-(intOf ix).toNat)
     case atStart=>exact⟨0,Zg _,rfl,by simpa[AU] using hq,Yg _ _⟩
     case round=>
      clear hF hq;obtain⟨j,hj,rfl,hF,ha⟩:=hrel;have x0:=Ab ha X0;have x1:=Ab ha X1;have y0:=Ab ha E0;by_cases hlj:j<pn
      ·obtain⟨b2,o2,p,rfl,hp,f0,f1,f2⟩:=bi_ (hy.below ha) hlj;have hO:=u2 p (Zc hp);have hb:Hid (AU v.id x.nm (x.ps.take (j+1))=AU v.id x.nm (x.ps.take j)++(if p.a==0 then [] else [⟨⟨p.a,v.id,x.nm⟩,1⟩])):=gI_ hp;clear hp;generalize AU v.id x.nm (x.ps.take j)=PP at *;have hH:(j:Int)<pn:=by omega
       have hJ:(0:Int)<=j:=by omega
       by_cases hz:0<p.a
       ·have hn:(p.a==0)=false:=ZV.2 (by omega);rw[hn] at hb;simp only[Zj,if_false] at hb;obtain⟨⟨a2,n2,cap2,rfl,hA,R⟩,hf⟩:=hF
        go_wp2_with fail
        refine aE_ 16 (by kernel_rfl) (by kernel_rfl) ?_;simp only[ZP,Yx,ZR,YC]
        repeat still_step
        refine wpStill_nil ?_
        go_wp2_with fail
        have hh:=(Yg wr.heap.size wr).drew;refine (hr_ a2 n2 cap2 _ ⟨⟨p.a,v.id,x.nm⟩,1⟩ _ (R.sl.below hh) (by omega) (fun z ho=>by have:=hf z ho;omega) (by simp)).mono ?_;rintro e w3 ⟨⟨a3,n3,cap3,rfl,hM,R3⟩,hu⟩;have hw:Below wr.heap.size wr w3:=Aa hh hu;have hQ:=hB.size;have hR:=hc.size;have hS:=he.size;have hT:=ha.size;have hU:=hh.size;go_wp2;go_roundw
        case rel=>
         refine⟨j+1,by omega,by go_num,⟨⟨a3,n3,cap3,rfl,by omega,?_⟩,?_⟩,Aa ha hw⟩
         ·rw[hb.out,<-ZC,ke_];exact R3.mono (by omega)
         ·rw[hb.out,<-ZC,ke_];intro z ho
          have:=lD_ (B:=1000*((6000*i+1000*k+j:Nat):Int)) (by omega) (c:=⟨⟨p.a,v.id,x.nm⟩,1⟩) (by simp) (by simp) hf z ho
          omega
        case measure=>simp[intOf];omega
       ·have hn:(p.a==0)=true:=by simp;omega
        rw[hn] at hb;simp only[if_true,Yy] at hb;go_wp2;go_roundw
        case rel=>exact⟨j+1,by omega,by go_num,by rw[hb.out];exact hF.mono (by omega),ha⟩
        case measure=>simp[intOf];omega
      ·obtain rfl:j=pn:=by omega
       go_wp2;go_roundw
       case rel=>
        refine⟨k+1,by omega,by go_num,?_,Aa hc (Aa he ha)⟩;rw[hm.out,<-ZC];rw[Zk (Zm hs.out)] at hF;exact hF.mono (by omega)
       case measure=>simp[intOf];omega
    ·obtain rfl:k=inn:=by omega
     go_wp2;go_roundw
     case rel=>
      refine⟨i+1,by omega,by go_num,?_,Aa hB hc⟩;rw[hl.out,<-Zk (l:=v.its) (Zm hr.out)];exact hF.mono (by omega)
     case measure=>simp[intOf];omega
  ·obtain rfl:i=n:=by omega
   obtain⟨⟨a2,n2,cap2,rfl,hA,R⟩,hf⟩:=hF;go_wp2;go_returns;rw[Zk (Zm hg.out)] at R hf;exact⟨⟨a2,n2,cap2,rfl,by omega,(fun x hx=>by have:=hf x hx;omega),R⟩,hB⟩
theorem ir_ (B:Nat)(a:Option Addr)(n cap:Nat)(vs:List Vo)(w:World)(h:Bp B w a n vs)(ht:Gc vs):
  Calls prog 54 #[.slice a n cap] w fun e w'=>(∃ a' n' cap',e=.returned (.slice a' n' cap')∧n'<=42000∧Ad Ct.cs 4 68 w' w.heap.size a' n' cap' (A9 vs))∧Below w.heap.size w w':=by
 refine (bA_ B a n cap vs w h ht.wide).mono ?_;rintro e w' ⟨⟨a',n',cap',he,hn,_,R⟩,hB⟩;exact⟨⟨a',n',cap',he,hn,R⟩,hB⟩
end
section
open Go.RowKit Go.BigFrame Go.Lib Tryz
variable{B e n:Nat}{w:World}
theorem kf_ (addr:Int):∀ (l:List Ex) (k:Nat),(atG addr k l=-1∧A6 addr l=⟨#[]⟩)∨∃ (j:Nat) (x:Ex),l[j]?=some x∧atG addr k l=(k:Int)+j∧A6 addr l=x.d
 |[],k=>.inl ⟨rfl,rfl⟩
 |e::r,k=>by
  unfold atG A6;split
  ·rename_i h;exact .inr ⟨0,e,rfl,by simp,rfl⟩
  ·rename_i h;rcases kf_ addr r (k+1) with⟨h1,h2⟩ | ⟨j,x,h1,h2,h3⟩
   ·exact .inl ⟨h1,h2⟩
   ·exact .inr ⟨j+1,x,by simpa using h1,by rw[h2];omega,h3⟩
theorem eo_ (a:Option Addr)(n cap:Nat)(l:List Pt)(a':Option Addr)(n' cap':Nat)(e:List Ex)(w:World)(h:BI w a n l)(h':BZ w a' n' e)(hstr:Dt e)(hn:n<=16)(hn':n'<=4194304)(hall:∀ p∈l,1<=p.n∧p.n<=100∧(p.a≠0->0<=p.f∧p.f<20)):
  Calls prog 94 #[.slice a n cap,.slice a' n' cap'] w fun x w'=>Km x (cgo e ⟨#[]⟩ l)∧Below w.heap.size w w':=by
 have hg:Hid (l.length=n):=h.len;have hf:Hid (cgo e ⟨#[]⟩ l=cgo e ⟨#[]⟩ (l.drop 0)):=rfl;generalize cgo e ⟨#[]⟩ l=R at *;obtain⟨i0,hi,hx,hy,hz⟩:=info_parts Me;go_enter func94,ntmps94
 go_wp2_with fail
 go_loopw [6,7] (fun out ix wr=>∃ (k:Nat) (s:ByteArray),k<=n∧ix=.int .i64 k∧s.size<=100*k∧out=.string s∧Hid (R=cgo e s (l.drop k))∧Below w.heap.size w wr) (fun _ ix _=>n-(RowKit.intOf ix).toNat)
 case atStart=>exact⟨0,⟨#[]⟩,Zg _,rfl,by simp[ByteArray.size],rfl,hf,Yg _ _⟩
 case round=>
  obtain⟨k,s,hk,rfl,hm,rfl,hI,hB⟩:=hrel;have hw:=hB.size;by_cases hlt:k<n
  ·obtain⟨b,o,p,rfl,hp,c0,c1,c2⟩:=bi_ (h.below hB) hlt;have hd:Hid (l.drop k=p::l.drop (k+1)):=al_ hp;obtain⟨hH,hJ,hu⟩:=hall p (Zc hp);obtain⟨pa,pf,pn⟩:=p;dsimp only at *;obtain⟨pk,rfl⟩:∃ pk:Nat,pn=pk:=⟨pn.toNat,by omega⟩
   cases ha:(pa==0)
   ·have ht:pa≠0:=by simpa using ha
    obtain⟨f0,f20⟩:=hu ht;obtain⟨fk,rfl⟩:∃ fk:Nat,pf=fk:=⟨pf.toNat,by omega⟩;have hc:Hid (R=match DT e ⟨pa,fk,pk⟩ with | none=>none | some d=>cgo e (s++d) (l.drop (k+1))):=by show _=_;rw[hI.out,hd.out];rfl
    have hb:Hid (DT e ⟨pa,fk,pk⟩=if ((A6 pa e).size:Int)<fk+pk then none else some ((A6 pa e).extract fk (fk+pk))):=by
     show _=_;simp only[DT,ha,Zj,if_false,Int.toNat_natCast];rw[show ((fk:Int)+(pk:Int)).toNat=fk+pk by omega]
    have hD:=ek_ (addr:=pa) hstr
    go_wp2_with fail
    refine (iC_ a' n' cap' e pa _ ((h'.below hB).alloc _) hn').mono ?_;rintro x w3 ⟨rfl,rfl⟩;rcases kf_ pa e 0 with⟨g1,g2⟩ | ⟨j,x,g1,g2,g3⟩
    ·rw[g1];rw[g2,if_pos (by simp[ByteArray.size];omega)] at hb;clear hI hd hp c0 c1 c2
     go_wp2_with fail
     go_quiet (fail)
     go_wp2;go_returns;rw[hc.out,hb.out];exact⟨rfl,below_drewN (by go_grown) _⟩
    ·rw[g2,show ((0:Nat):Int)+(j:Int)=j by omega];rw[g3] at hb hD;have hj:j<n':=by rw[<-h'.len];exact (Zb.1 g1).1
     obtain⟨b',o',x',rfl,hr,y0,y1⟩:=be_ ((h'.below hB).alloc (.cells #[.int .i64 pa,.int .i64 fk,.int .i64 pk] 124)) hj;rw[g1] at hr;obtain rfl:=Zi hr;have hl:Below w.heap.size w (wr.alloc (.cells #[.int .i64 pa,.int .i64 fk,.int .i64 pk] 124)):=hB.alloc hw _;have z0:(wr.alloc (.cells #[.int .i64 pa,.int .i64 fk,.int .i64 pk] 124)).cell? ⟨wr.heap.size,0,none⟩=some (.int .i64 pa):=by simp
     have z1:(wr.alloc (.cells #[.int .i64 pa,.int .i64 fk,.int .i64 pk] 124)).cell? ⟨wr.heap.size,1,none⟩=some (.int .i64 fk):=by simp
     have z2:(wr.alloc (.cells #[.int .i64 pa,.int .i64 fk,.int .i64 pk] 124)).cell? ⟨wr.heap.size,2,none⟩=some (.int .i64 pk):=by simp
     clear c0 c1 c2 hI hd hp g1 g2 g3;generalize wr.alloc (.cells #[.int .i64 pa,.int .i64 fk,.int .i64 pk] 124)=W at *;obtain⟨xa,D⟩:=x;dsimp only at *;have hC:(0:Int)<=j:=by omega
     have hE:(j:Int)<n':=by omega
     have hF:decide ((j:Int)<0)=false:=by simp
     by_cases hlt2:(D.size:Int)<fk+pk
     ·rw[if_pos hlt2] at hb
      go_wp2_with fail
      go_quiet (fail)
      go_wp2;go_returns;rw[hc.out,hb.out];exact⟨rfl,below_drewN hl _⟩
     ·rw[if_neg hlt2] at hb;have hG:(fk:Int)+(pk:Int)<=D.size:=by omega
      have hv:=fun W'=>run_slice_string (P:=prog) W' 9 D .i64 .i64 fk (fk+pk) underlying9 (by omega) (by omega) (by omega);rw[show ((fk:Int)+(pk:Int)).toNat=fk+pk by omega,Int.toNat_natCast] at hv;have hK:(D.extract fk (fk+pk)).size=pk:=by rw[ByteArray.size_extract];omega
      generalize D.extract fk (fk+pk)=X at *
      go_wp2_with fail
      go_quiet (fail)
      have hs:=below_drewN hl nq;replace z0:(W.drewN nq).cell? ⟨wr.heap.size,0,none⟩=some (.int .i64 pa):=z0;replace z1:(W.drewN nq).cell? ⟨wr.heap.size,1,none⟩=some (.int .i64 fk):=z1;replace z2:(W.drewN nq).cell? ⟨wr.heap.size,2,none⟩=some (.int .i64 pk):=z2;replace y1:(W.drewN nq).cell? ⟨b',o'+j*2+1,none⟩=some (.string D):=y1;clear y0;generalize W.drewN nq=W1 at *
      go_wp2_with fail
      go_quiet (fail)
      go_wp2;go_roundw
      case rel=>exact⟨k+1,s++X,by omega,by go_num,by rw[ByteArray.size_append];omega,rfl,by show _=_;rw[hc.out,hb.out],below_drewN hs _⟩
      case measure=>simp[RowKit.intOf];omega
   ·have hc:Hid (R=cgo e (s++zs pk) (l.drop (k+1))):=by
     show _=_;rw[hI.out,hd.out];simp[cgo,DT,ha]
    have hq:∀ u:World,(Instr.makeSlice 22 (.int .i64 (pk:Int)) (.int .i64 (pk:Int))).run prog u=.ok (.slice (some ⟨u.heap.size,0,none⟩) pk pk) (u.alloc (.cells (strCells (zs pk)).toArray 5)):=fun u=>by
     have hm:=run_make (P:=prog) u 22 5 i0 (.int .u8 0) underlying22 hi hx .i64 .i64 (pk:Int) (pk:Int) (by omega) (YB _) (by rw[hz];omega) (by omega);rw[jN_];simpa[hy,Value.cells,madeCells,Builtin.zeroCells] using hm
    have ho:∀ u:World,(convert 22 9 (.slice (some ⟨u.heap.size,0,none⟩) pk pk)).run prog (u.alloc (.cells (strCells (zs pk)).toArray 5))=.ok (.string (zs pk)) (u.alloc (.cells (strCells (zs pk)).toArray 5)):=fun u=>
     jO_ (B:=0) (e:=5) (n:=pk) ⟨by rw[strCells_length,ca_,Nat.mul_one],.inr ⟨u.heap.size,pk,_,rfl,Zg _,Blk.new u _ 5,Zd _,by unfold maxLen;omega,by simp[strCells_length,ca_],by rw[Nat.mul_one,Zk (by simp[strCells_length,ca_])]⟩⟩ 22 underlying22 underlying5 9 underlying9
    have hh:=hq (wr.alloc (.cells #[.int .i64 pa,.int .i64 pf,.int .i64 pk] 124));have he:=ho (wr.alloc (.cells #[.int .i64 pa,.int .i64 pf,.int .i64 pk] 124));rw[show (wr.alloc (.cells #[.int .i64 pa,.int .i64 pf,.int .i64 pk] 124)).heap.size=wr.heap.size+1 by simp] at hh he;have hA:=ca_ pk;generalize zs pk=Z at *;clear hq ho;go_wp2;go_roundw
    case rel=>exact⟨k+1,s++Z,by omega,by go_num,by rw[ByteArray.size_append];omega,rfl,hc,by go_grown⟩
    case measure=>simp[RowKit.intOf];omega
  ·obtain rfl:k=n:=by omega
   go_wp2;go_returns;rw[hI.out,Ze (by rw[hg.out];exact Zd _)];exact⟨rfl,hB⟩
end
section
open Go Go.RowKit Go.BigFrame Tryz
theorem jm_ {ps:List Pt}{e:List Ex}(h:Am 400 e=true):(AP ps e).isSome=(Ae ps&&(cgo e ⟨#[]⟩ ps).isSome):=by
 unfold AP
 cases hp:Ae ps<;>simp[h]
theorem lF_ (B:Nat)(v:Vo)(pa:Option Addr)(pn pc:Nat)(ea:Option Addr)(en ec:Nat)(e:List Ex)(w:World)(h:Bw B w pa pn v.its)(he:BZ w ea en e)(hstr:Dt e)(hen:en<=4194304)(hsp:Am 400 e=true)(hnm:v.nm.size<=9223372036854775807)(hpn:pn<=4194304)(hI:Ms v.its):
  Calls prog 51 #[.agg #[.int .i64 v.id,.string v.nm,.bool v.fx,.slice pa pn pc],.slice ea en ec] w fun x w'=>x=.returned (.bool (nameB v.nm&&itemsB v.its e))∧Below w.heap.size w w':=by
 obtain⟨id,nm,fx,its⟩:=v;simp only at h hnm hI ⊢;have hr:Hid (its.length=pn):=h.len
 cases hw:nameB nm
 ·go_enter func51,ntmps51
  go_wp2_with fail
  refine (aq_ nm _ hnm).mono ?_;rintro x w1 ⟨rfl,rfl⟩;rw[hw];go_wp2;go_returns;exact⟨rfl,by go_grown⟩
 ·have hR:Hid ((true&&itemsB its e)=(decide (its.length<=5)&&igo e none its)):=by show _=_;rw[Zp];rfl
  generalize (true&&itemsB its e)=R at *;by_cases h5:pn<=5
  ·rw[hr.out,decide_eq_true h5,Zp] at hR;go_enter func51,ntmps51
   go_wp2_with fail
   refine (aq_ nm _ hnm).mono ?_;rintro x w1 ⟨rfl,hz⟩;rw[hw];have hE:Below w.heap.size w w1:=by rw[hz];go_grown
   have C:Blk w1 w.heap.size #[.int .i64 id,.string nm,.bool fx,.slice pa pn pc] 80:=by rw[hz];exact Blk.new w _ _
   have hC:=C.lt;clear hz;have c3:=C.cell 3;simp only[lgA,lgB,lgC] at c3
   go_wp2_with fail
   go_loopw [5] (fun ix wr=>∃ (k:Nat),k<=pn∧ix=.int .i64 k∧Hid (R=igo e (CO its k) (its.drop k))∧Blk wr w.heap.size #[.int .i64 id,.string nm,.bool fx,.slice pa pn pc] 80∧Below w.heap.size w wr) (fun ix _=>pn-(intOf ix).toNat)
   case atStart=>exact⟨0,Zg _,rfl,hR,C,hE⟩
   case round=>
    clear c3;obtain⟨k,hk,rfl,hv,C',hB⟩:=hrel;have c3:=C'.cell 3;simp only[lgA,lgB,lgC] at c3;by_cases hC:k<pn
    ·obtain⟨b,o,x,qa,qn,qc,rfl,hx,c0,c1,hP,_,_,_⟩:=bO_ (h.below hB) hC
     have hb:Hid (R=(nameB x.nm&&(match CO its k with | none=>true | some p=>bl p.nm.toList x.nm.toList)&&(AP x.ps e).isSome&&igo e (CO its (k+1)) (its.drop (k+1)))):=by
      show _=_;rw[hv.out,al_ hx,hB_,hx];rfl
     rw[jm_ hsp] at hb;obtain⟨m1,m2⟩:=hI x (Zc hx);have hD:x.ps.length=qn:=hP.len;rw[hD] at m2;have hH:(k:Int)<pn:=by omega
     have hJ:(0:Int)<=k:=by omega
     have hs:0<k->∃ y,CO its k=some y∧wr.cell? ⟨b,o+(k-1)*2,none⟩=some (.string y.nm):=fun h0=>by
      obtain⟨b',o',y,_,_,_,hF,hy,d0,_⟩:=bO_ (h.below hB) (show k-1<pn by omega);obtain⟨rfl,rfl⟩:b=b'∧o=o':=by simpa using hF
      exact⟨y,by unfold CO;rw[if_neg (by omega)];exact hy,d0⟩
     have hc:∀ u:World,Below wr.heap.size wr u->Below w.heap.size w u:=fun u hu=>Aa hB hu;clear hx hv hD;have hg:=fun u:World=>aq_ x.nm u m1;have hh:=fun (u:World) (hu:Below wr.heap.size wr u)=>i7_ qa qn qc x.ps u (hP.below hu) m2;have hj:Below wr.heap.size wr (wr.alloc (.cells #[.string x.nm,.slice qa qn qc] 122)):=by go_grown
     have X:=Blk.new wr #[.string x.nm,.slice qa qn qc] 122;have x0:∀ g:Grw (wr.alloc (.cells #[.string x.nm,.slice qa qn qc] 122)),g.w.cell? ⟨wr.heap.size,0,none⟩=some (.string x.nm):=Ac (X.cell 0);have x1:∀ g:Grw (wr.alloc (.cells #[.string x.nm,.slice qa qn qc] 122)),g.w.cell? ⟨wr.heap.size,1,none⟩=some (.slice qa qn qc):=Ac (X.cell 1);have x3:=Ac (Ab hj c3);have hL:=aA_ (wr.alloc (.cells #[.string x.nm,.slice qa qn qc] 122))
     cases hp:nameB x.nm
     ·rw[hp] at hb
      go_wp2_with fail
      refine ab_ (by kernel_rfl) (by kernel_rfl) ?_
      repeat (go_big_quiet_step (first | (go_at_call 92;have qq:=hg;rw[hp] at qq;exact am_ (qq _))))
      refine wpQuiet_nil ?_;intro w2 hx;have hf:=Aa hj (ah_ hx);clear hx;go_wp2;go_returns;exact⟨by rw[hb.out];simp,hc _ hf⟩
     ·rw[hp,Zp] at hb;by_cases hk0:0<k
      ·obtain⟨y,hy,d0⟩:=hs hk0;have y0:=Ac (Ab hj d0);rw[hy] at hb;have ht:decide ((0:Int)<(k:Int))=true:=decide_eq_true (by omega);have hK:((k:Int)-1).toNat=k-1:=by omega
       cases hA:bl y.nm.toList x.nm.toList
       ·simp only[hA,Zr] at hb
        go_wp2_with fail
        refine ab_ (by kernel_rfl) (by kernel_rfl) ?_
        repeat (go_big_quiet_step (first | (go_at_call 92;have qq:=hg;rw[hp] at qq;exact am_ (qq _))))
        refine wpQuiet_nil ?_;intro w2 hx;have hf:=Aa hj (ah_ hx);have x1':=Ab (ah_ hx) (show (wr.alloc (.cells #[.string x.nm,.slice qa qn qc] 122)).cell? ⟨wr.heap.size,1,none⟩=some (.slice qa qn qc) from X.cell 1);have C2:=C'.below hf;clear hx;go_wp2;go_returns;exact⟨by rw[hb.out];rfl,hc _ hf⟩
       ·simp only[hA,Zp] at hb
        cases hn:Ae x.ps
        ·rw[hn,Zr,Zr] at hb
         go_wp2_with fail
         refine ab_ (by kernel_rfl) (by kernel_rfl) ?_
         repeat (go_big_quiet_step (first | (go_at_call 92;have qq:=hg;rw[hp] at qq;exact am_ (qq _)) | (go_at_call 93;have qq:=fun (u:World) (hu:Below wr.heap.size wr u)=>hh u hu;rw[hn] at qq;exact an_ (qq _ (Aa hj (Grw.h _))))))
         refine wpQuiet_nil ?_;intro w2 hx;have hf:=Aa hj (ah_ hx);have x1':=Ab (ah_ hx) (show (wr.alloc (.cells #[.string x.nm,.slice qa qn qc] 122)).cell? ⟨wr.heap.size,1,none⟩=some (.slice qa qn qc) from X.cell 1);have C2:=C'.below hf;clear hx;go_wp2;go_returns;exact⟨by rw[hb.out];rfl,hc _ hf⟩
        ·rw[hn,Zp] at hb;obtain⟨hm,hq⟩:=gd_ hn;rw[hP.len] at hm
         go_wp2_with fail
         refine ab_ (by kernel_rfl) (by kernel_rfl) ?_
         repeat (go_big_quiet_step (first | (go_at_call 92;have qq:=hg;rw[hp] at qq;exact am_ (qq _)) | (go_at_call 93;have qq:=fun (u:World) (hu:Below wr.heap.size wr u)=>hh u hu;rw[hn] at qq;exact an_ (qq _ (Aa hj (Grw.h _))))))
         refine wpQuiet_nil ?_;intro w2 hx;have hf:=Aa hj (ah_ hx);have x1':=Ab (ah_ hx) (show (wr.alloc (.cells #[.string x.nm,.slice qa qn qc] 122)).cell? ⟨wr.heap.size,1,none⟩=some (.slice qa qn qc) from X.cell 1);have C2:=C'.below hf;clear hx
         go_wp2_with fail
         refine (eo_ qa qn qc x.ps ea en ec e _ (hP.below hf) (he.below (hc _ hf)) hstr hm hen hq).mono ?_;rintro e1 w3 ⟨ha,hl⟩;replace C2:=C2.below hl;replace hl:=Aa hf hl
         cases ho:cgo e ⟨#[]⟩ x.ps with
         |none=>
          rw[ho] at ha hb;replace ha:e1=.returned (.tuple #[.string ⟨#[]⟩,.bool false]):=ha;subst ha;clear ho;go_wp2;go_returns;exact⟨by rw[hb.out];rfl,hc _ hl⟩
         |some s=>
          rw[ho] at ha hb;replace ha:e1=.returned (.tuple #[.string s,.bool true]):=ha;subst ha;clear ho;go_wp2;go_roundw
          case rel=>exact⟨k+1,by omega,by go_num,by show _=_;rw[hb.out];rfl,C2,hc _ hl⟩
          case measure=>simp[intOf];omega
      ·have hG:CO its k=none:=by unfold CO;rw[if_pos (by omega)]
       have ht:decide ((0:Int)<(k:Int))=false:=YV (by omega);rw[hG] at hb;simp only[Zp] at hb
       cases hn:Ae x.ps
       ·rw[hn,Zr,Zr] at hb
        go_wp2_with fail
        refine ab_ (by kernel_rfl) (by kernel_rfl) ?_
        repeat (go_big_quiet_step (first | (go_at_call 92;have qq:=hg;rw[hp] at qq;exact am_ (qq _)) | (go_at_call 93;have qq:=fun (u:World) (hu:Below wr.heap.size wr u)=>hh u hu;rw[hn] at qq;exact an_ (qq _ (Aa hj (Grw.h _))))))
        refine wpQuiet_nil ?_;intro w2 hx;have hf:=Aa hj (ah_ hx);have x1':=Ab (ah_ hx) (show (wr.alloc (.cells #[.string x.nm,.slice qa qn qc] 122)).cell? ⟨wr.heap.size,1,none⟩=some (.slice qa qn qc) from X.cell 1);have C2:=C'.below hf;clear hx;go_wp2;go_returns;exact⟨by rw[hb.out];rfl,hc _ hf⟩
       ·rw[hn,Zp] at hb;obtain⟨hm,hq⟩:=gd_ hn;rw[hP.len] at hm
        go_wp2_with fail
        refine ab_ (by kernel_rfl) (by kernel_rfl) ?_
        repeat (go_big_quiet_step (first | (go_at_call 92;have qq:=hg;rw[hp] at qq;exact am_ (qq _)) | (go_at_call 93;have qq:=fun (u:World) (hu:Below wr.heap.size wr u)=>hh u hu;rw[hn] at qq;exact an_ (qq _ (Aa hj (Grw.h _))))))
        refine wpQuiet_nil ?_;intro w2 hx;have hf:=Aa hj (ah_ hx);have x1':=Ab (ah_ hx) (show (wr.alloc (.cells #[.string x.nm,.slice qa qn qc] 122)).cell? ⟨wr.heap.size,1,none⟩=some (.slice qa qn qc) from X.cell 1);have C2:=C'.below hf;clear hx
        go_wp2_with fail
        refine (eo_ qa qn qc x.ps ea en ec e _ (hP.below hf) (he.below (hc _ hf)) hstr hm hen hq).mono ?_;rintro e1 w3 ⟨ha,hl⟩;replace C2:=C2.below hl;replace hl:=Aa hf hl
        cases ho:cgo e ⟨#[]⟩ x.ps with
        |none=>
         rw[ho] at ha hb;replace ha:e1=.returned (.tuple #[.string ⟨#[]⟩,.bool false]):=ha;subst ha;clear ho;go_wp2;go_returns;exact⟨by rw[hb.out];rfl,hc _ hl⟩
        |some s=>
         rw[ho] at ha hb;replace ha:e1=.returned (.tuple #[.string s,.bool true]):=ha;subst ha;clear ho;go_wp2;go_roundw
         case rel=>exact⟨k+1,by omega,by go_num,by show _=_;rw[hb.out];rfl,C2,hc _ hl⟩
         case measure=>simp[intOf];omega
    ·obtain rfl:k=pn:=by omega
     go_wp2;go_returns;exact⟨by rw[hv.out,Ze (Zm hr.out)];rfl,hB⟩
  ·rw[hr.out,YV h5,Zr] at hR;go_enter func51,ntmps51
   go_wp2_with fail
   refine (aq_ nm _ hnm).mono ?_;rintro x w1 ⟨rfl,rfl⟩;rw[hw];go_wp2;go_returns;exact⟨by rw[hR.out];rfl,by go_grown⟩
end
section
open Go Go.RowKit
variable{next size:Int}{e:List Ex}
def idB (next:Int)(q:Option Vo)(v:Vo):Bool:=decide (1<=v.id)&&decide (v.id<=1000000000)&&decide (v.id<next)&&(match q with | none=>true | some u=>decide (u.id<v.id))
def CI (u v:Vo):Bool:=u.nm.toList==v.nm.toList
def FV (next:Int)(e:List Ex):List Vo->List Vo->Bool
 |_,[]=>true
 |seen,v::r=>idB next seen.getLast? v&&(nameB v.nm&&itemsB v.its e)&&!(seen.any (fun u=>CI u v))&&FV next e (seen++[v]) r
def ndV:List Vo->List Vo->Bool
 |_,[]=>true
 |seen,v::r=>!(seen.any (fun u=>CI u v))&&ndV (seen++[v]) r
def Em (seen:List Vo):Int:=match seen.getLast? with | none=>0 | some u=>u.id
theorem mz_ (hn:next<=1000000000):∀ (vs seen:List Vo),(∀ u∈seen,1<=u.id)->FV next e seen vs=(vgo next e (Em seen) vs&&ndV seen vs)
 |[],seen,_=>rfl
 |v::r,seen,hs=>by
  have ha:idB next seen.getLast? v=(decide (Em seen<v.id)&&decide (v.id<next)):=by
   unfold idB Em
   cases hl:seen.getLast? with
   |none=>rw[YH];simp;omega
   |some u=>
    have:=hs u (List.mem_of_getLast? hl)
    rw[YH];simp;omega
  by_cases hv:1<=v.id
  ·have ih:=mz_ hn r (seen++[v]) (fun u hu=>by
    rcases Zs.1 hu with hu | hu
    ·exact hs u hu
    ·simp at hu;subst hu;exact hv)
   have hl:Em (seen++[v])=v.id:=by simp[Em]
   rw[hl] at ih;simp only[FV,vgo,ndV,ha,ih]
   cases decide (Em seen<v.id)<;>cases decide (v.id<next)<;>cases nameB v.nm<;>cases itemsB v.its e<;>cases vgo next e v.id r<;>cases (seen.any fun u=>CI u v)<;>simp
  ·have h0:decide (Em seen<v.id)=false:=by
    rw[YU];unfold Em
    cases hl:seen.getLast? with
    |none=>simp;omega
    |some u=>have:=hs u (List.mem_of_getLast? hl);simp;omega
   simp only[FV,vgo,ha,h0,Zr]
theorem n9_:∀ (vs seen:List Vo),(seen.map (·.nm.toList)).Nodup->ndV seen vs=decide (((seen++vs).map (·.nm.toList)).Nodup)
 |[],seen,h=>by simp[ndV,h]
 |v::r,seen,h=>by
  cases ha:(seen.any fun u=>CI u v)
  ·have hb:v.nm.toList∉seen.map (·.nm.toList):=by
    intro hm;obtain⟨u,hu,he⟩:=ZT.1 hm;rw[List.any_eq_false] at ha;exact ha u hu (by simp[CI,he])
   have h2:((seen++[v]).map (·.nm.toList)).Nodup:=by
    rw[List.map_append,Yf];exact⟨h,by simp,fun x hx y hy=>by simp at hy;subst hy;intro e;subst e;exact hb hx⟩
   have ih:=n9_ r (seen++[v]) h2;simp only[ndV,ha,Bool.not_false,Zp,ih,ZC,YF,ZM]
  ·have:¬ ((seen++v::r).map (·.nm.toList)).Nodup:=by
    intro hn;rw[List.map_append,Yf] at hn;obtain⟨u,hu,he⟩:=ZN.1 ha;exact hn.2.2 u.nm.toList (List.mem_map_of_mem hu) v.nm.toList (by simp) (by simpa[CI] using he)
   simp only[ndV,ha,Bool.not_true,Zr];exact (YV this).symm
theorem kg_ {vs:List Vo}(hn:next<=1000000000):FV next e [] vs=(vgo next e 0 vs&&Ep vs):=by
 rw[mz_ hn vs [] (fun u hu=>by cases hu),n9_ vs [] List.nodup_nil];rfl
theorem kh_ {size':Int}(h:size<=size'):∀ {l:List Ex} {next:Int},xgo size next l=true->xgo size' next l=true
 |[],_,_=>rfl
 |x::r,next,hx=>by
  simp only[xgo,Zf,ZU] at hx ⊢;exact⟨⟨⟨hx.1.1.1,hx.1.1.2⟩,by omega⟩,kh_ h hx.2⟩
theorem iI_ (h:Am size e=true):Am 400 e=true:=by
 simp only[Am,Zf,ZU] at h ⊢;exact⟨⟨⟨by omega,by omega⟩,h.1.2⟩,kh_ h.1.1.2 h.2⟩
theorem mA_ (addr:Int):∀ (l:List Ex) (k:Nat),decide (atG addr k l<0)=!(l.any (fun x=>x.a==addr))
 |[],k=>by simp[atG]
 |x::r,k=>by
  cases hx:(x.a==addr)
  ·simp only[atG,hx,Zj,if_false,List.any_cons,Bool.false_or];exact mA_ addr r (k+1)
  ·simp only[atG,hx,if_true,List.any_cons,Bool.true_or,Bool.not_true,YU];omega
end
section
open Go Go.RowKit Go.BigFrame Tryz
variable{x:IR}{b:List Nat}{l:List Vo}{B cap i k n:Nat}{a:Option Addr}{p:Po}{v:Value}{y:Vo}{w w':World}
theorem ki_ (a:Option Addr)(n cap:Nat)(l:List Ct)(a':Option Addr)(n' cap':Nat)(m:List Ct)(w:World)(h:A8 w a n l)(h':A8 w a' n' m)(hn:n<=4194304)(hn':n'<=4194304):
  Calls prog 53 #[.slice a n cap,.slice a' n' cap'] w fun e w'=>e=.returned (.bool (BW l m))∧Below w.heap.size w w':=by
 have hb:Hid (l.length=n):=h.len;have ha:Hid (m.length=n'):=h'.len;by_cases hne:n=n'
 ·subst hne;have hh:((n:Int) != (n:Int))=false:=by simp
  go_enter func53,ntmps53
  go_wp2_with fail
  go_loopw [5] (fun ix wr=>∃ (k:Nat),k<=n∧ix=.int .i64 k∧Hid (BW l m=BW (l.drop k) (m.drop k))∧Below w.heap.size w wr) (fun ix _=>n-(intOf ix).toNat)
  case atStart=>exact⟨0,Zg _,rfl,rfl,Yg _ _⟩
  case round=>
   obtain⟨k,hk,rfl,hI,hB⟩:=hrel;by_cases hlt:k<n
   ·obtain⟨b,o,p,rfl,hp,c0,c1,c2,c3⟩:=aN_ (h.below hB) hlt;obtain⟨b',o',q,rfl,hq,d0,d1,d2,d3⟩:=aN_ (h'.below hB) hlt;have hd:Hid (l.drop k=p::l.drop (k+1)):=al_ hp;have hg:Hid (m.drop k=q::m.drop (k+1)):=al_ hq;clear hp hq;have hj:(k:Int)<n:=by omega
    have hl:(0:Int)<=k:=by omega
    have he:=Mg p q
    cases hf:KD p q
    all_goals rw[hf] at he
    ·go_wp2_with fail
     go_quiet (fail)
     have hc:=below_drewN hB nq;go_wp2;go_returns;go_light;refine⟨ac_ ?_,hc⟩;rw[hI.out,hd.out,hg.out];simp only[BW,hf,Zr]
    ·go_wp2_with fail
     go_quiet (fail)
     have hc:=below_drewN hB nq;go_wp2;go_roundw
     case rel=>exact⟨k+1,by omega,by go_num,by show _=_;rw[hI.out,hd.out,hg.out];simp only[BW,hf,Zp],hc⟩
     case measure=>simp[intOf];omega
   ·obtain rfl:k=n:=by omega
    go_wp2;go_returns;go_light;refine⟨ac_ ?_,hB⟩;rw[hI.out,Ze (Zm hb.out),Ze (Zm ha.out)];rfl
 ·have hh:((n:Int) != (n':Int))=true:=by simp;omega
  go_enter func53,ntmps53;go_wp2;go_returns;go_light;refine⟨ac_ ?_,Yg _ _⟩;rw[gg_ (by rw[hb.out,ha.out];exact hne)]
theorem gJ_ (size next:Int)(ea:Option Addr)(en ec:Nat)(va:Option Addr)(vn vc:Nat)(ra:Option Addr)(rn rc:Nat)(la:Option Addr)(ln lc:Nat)(rf lt:List Ct)(addr:Int)(w:World)(h:A8 w ra rn rf)(h':A8 w la ln lt)(hn:rn<=4194304)(hn':ln<=4194304):
  Calls prog 55 #[.agg #[.int .i64 size,.int .i64 next,.slice ea en ec,.slice va vn vc,.slice ra rn rc,.slice la ln lc],.int .i64 addr] w fun e w'=>e=.returned (.bool ((rf++lt).any (fun c=>c.o.a==addr)))∧Below w.heap.size w w':=by
 have hc:Hid (rf.length=rn):=h.len;have hb:Hid (lt.length=ln):=h'.len;have hR:Hid ((rf++lt).any (fun c=>c.o.a==addr)=((rf.drop 0).any (fun c=>c.o.a==addr)||lt.any (fun c=>c.o.a==addr))):=by show _=_;rw[List.any_append];rfl
 generalize (rf++lt).any (fun c=>c.o.a==addr)=R at *;go_enter func55,ntmps55
 go_wp2_with fail
 have C4:(w.alloc (.cells #[.int .i64 size,.int .i64 next,.slice ea en ec,.slice va vn vc,.slice ra rn rc,.slice la ln lc] 28)).cell? ⟨w.heap.size,4,none⟩=some (.slice ra rn rc):=(Blk.new w _ _).cell 4;have C5:(w.alloc (.cells #[.int .i64 size,.int .i64 next,.slice ea en ec,.slice va vn vc,.slice ra rn rc,.slice la ln lc] 28)).cell? ⟨w.heap.size,5,none⟩=some (.slice la ln lc):=(Blk.new w _ _).cell 5;have ha:Below w.heap.size w (w.alloc (.cells #[.int .i64 size,.int .i64 next,.slice ea en ec,.slice va vn vc,.slice ra rn rc,.slice la ln lc] 28)):=by go_grown
 generalize w.alloc (.cells #[.int .i64 size,.int .i64 next,.slice ea en ec,.slice va vn vc,.slice ra rn rc,.slice la ln lc] 28)=W0 at *
 go_loopw [5] (fun ix wr=>∃ (k:Nat),k<=rn∧ix=.int .i64 k∧Hid (R=((rf.drop k).any (fun c=>c.o.a==addr)||lt.any (fun c=>c.o.a==addr)))∧Below W0.heap.size W0 wr) (fun ix _=>rn-(intOf ix).toNat)
 case atStart=>exact⟨0,Zg _,rfl,hR,Yg _ _⟩
 case round=>
  clear hR;obtain⟨k,hk,rfl,hI,hB⟩:=hrel;have c4:=Ab hB C4;by_cases hlt:k<rn
  ·obtain⟨b,o,p,rfl,hp,c0,c1,c2,c3⟩:=aN_ (h.below (Aa ha hB)) hlt;have hd:Hid (rf.drop k=p::rf.drop (k+1)):=al_ hp;clear hp c1 c2 c3;have hg:(k:Int)<rn:=by omega
   have hh:(0:Int)<=k:=by omega
   cases he:(p.o.a==addr)
   ·go_wp2;go_roundw
    case rel=>exact⟨k+1,by omega,by go_num,by show _=_;rw[hI.out,hd.out];simp only[List.any_cons,he,Bool.false_or],hB⟩
    case measure=>simp[intOf];omega
   ·go_wp2;go_returns;exact⟨ac_ (by rw[hI.out,hd.out];simp[he]),Aa ha hB⟩
  ·obtain rfl:k=rn:=by omega
   have hf:Hid (R=(lt.drop 0).any (fun c=>c.o.a==addr)):=by show _=_;rw[hI.out,Ze (Zm hc.out)];rfl
   obtain⟨wi,hl⟩:∃ x,x=wr:=⟨_,rfl⟩;subst hl;clear hI
   go_wp2_with fail
   go_loopw [6] (fun ix wr=>∃ (j:Nat),j<=ln∧ix=.int .i64 j∧Hid (R=(lt.drop j).any (fun c=>c.o.a==addr))∧Below W0.heap.size W0 wr) (fun ix _=>ln-(intOf ix).toNat)
   case atStart=>exact⟨0,Zg _,rfl,hf,hB⟩
   case round=>
    clear hf hB c4;obtain⟨j,hj,rfl,hI,hB⟩:=hrel;have c5:=Ab hB C5;by_cases hlt2:j<ln
    ·obtain⟨b,o,p,rfl,hp,c0,c1,c2,c3⟩:=aN_ (h'.below (Aa ha hB)) hlt2;have hd:Hid (lt.drop j=p::lt.drop (j+1)):=al_ hp;clear hp c1 c2 c3;have hg:(j:Int)<ln:=by omega
     have hh:(0:Int)<=j:=by omega
     cases he:(p.o.a==addr)
     ·go_wp2;go_roundw
      case rel=>exact⟨j+1,by omega,by go_num,by show _=_;rw[hI.out,hd.out];simp only[List.any_cons,he,Bool.false_or],hB⟩
      case measure=>simp[intOf];omega
     ·go_wp2;go_returns;exact⟨ac_ (by rw[hI.out,hd.out];simp[he]),Aa ha hB⟩
    ·obtain rfl:j=ln:=by omega
     go_wp2;go_returns;exact⟨ac_ (by rw[hI.out,Ze (Zm hb.out)];rfl),Aa ha hB⟩
theorem nf_ (h:i<=l.length):(l.take i).getLast?=if i=0 then none else l[i-1]?:=by
 rw[List.getLast?_eq_getElem?,Zz,ZZ h];split
 ·subst_vars;simp
 ·rw[Ya (by omega)]
theorem ep_ (B:Nat)(hB0:0<B)(v:Value)(p:Po)(w:World)(h:AW B w v p)(hd:AJ p):
  Calls prog 26 #[v] w fun e w'=>e=.returned (.bool (Ap p))∧Below w.heap.size w w':=by
 obtain⟨ea,en,ec,va,vn,vc,ra,rn,rc,la,ln,lc,rfl,⟨h1,k1⟩,⟨h2,k2⟩,⟨h3,k3⟩,h4,k4⟩:=h;obtain⟨z1,z2,z3,z4,z5,z6,z7,z8⟩:=hd;rw[h1.len] at z1;rw[h2.len] at z3;rw[h3.len] at z5;rw[h4.len] at z7;have n2:Hid (p.vs.length=vn):=h2.len;have n1:Hid (p.ex.length=en):=h1.len;obtain⟨size,next,ex,vs,rf,lt⟩:=p;simp only at h1 h2 h3 h4 z2 z4 z6 z8 n1 n2;have hR:Hid (Ap ⟨size,next,ex,vs,rf,lt⟩=(Am size ex&&decide (1<=next)&&decide (next<=1000000000)&&(decide (vs.length<=6)&&vgo next ex 0 vs)&&Ep vs&&(match AB rf lt with | none=>false | some s=>BW s (A9 vs))&&Du ex (rf++lt))):=rfl;generalize Ap ⟨size,next,ex,vs,rf,lt⟩=R at *
 cases hL:Am size ex
 ·rw[hL] at hR;simp only[Zr] at hR;go_enter func26,ntmps26
  go_wp2_with fail
  refine (aT_ size ea en ec ex _ (h1.below (by go_grown)) z2 z1).mono ?_;rintro e w1 ⟨rfl,rfl⟩;rw[hL];go_wp2;go_returns;exact⟨by rw[hR.out];rfl,by go_grown⟩
 ·rw[hL,Zp] at hR
  cases hU:(decide (1<=next)&&decide (next<=1000000000))
  ·rw[hU] at hR;simp only[Zr] at hR;go_enter func26,ntmps26
   go_wp2_with fail
   refine (aT_ size ea en ec ex _ (h1.below (by go_grown)) z2 z1).mono ?_;rintro e w1 ⟨rfl,rfl⟩;rw[hL]
   go_wp2_with fail
   refine (ai_ next 1 1000000000 _).mono ?_;rintro e w1 ⟨rfl,rfl⟩;rw[hU];go_wp2;go_returns;exact⟨by rw[hR.out];rfl,by go_grown⟩
  ·rw[hU,Zp] at hR;have hZ:1<=next∧next<=1000000000:=by simpa using hU
   by_cases h6:vn<=6
   ·rw[n2.out,decide_eq_true h6,Zp,<-kg_ hZ.2] at hR;have qL:=iI_ hL;go_enter func26,ntmps26
    go_wp2_with fail
    refine (aT_ size ea en ec ex _ (h1.below (by go_grown)) z2 z1).mono ?_;rintro e w1 ⟨rfl,qp⟩;rw[hL];have C:Blk w1 w.heap.size #[.int .i64 size,.int .i64 next,.slice ea en ec,.slice va vn vc,.slice ra rn rc,.slice la ln lc] 28:=by rw[qp];exact Blk.new w _ _
    have qu:Below w.heap.size w w1:=by rw[qp];go_grown
    clear qp;have c1:=C.cell 1;have c3:=C.cell 3;simp only[lgA,lgB,lgC] at c1 c3
    go_wp2_with fail
    refine (ai_ next 1 1000000000 _).mono ?_;rintro e w2 ⟨rfl,rfl⟩;rw[hU]
    go_wp2_with fail
    generalize hM:(match AB rf lt with | none=>false | some s=>BW s (A9 vs))=M at *;generalize h7:Du ex (rf++lt)=AD at *;replace hM:Hid ((match AB rf lt with | none=>false | some s=>BW s (A9 vs))=M):=hM;replace h7:Hid (Du ex (rf++lt)=AD):=h7;have hS:Hid (FV next ex [] vs=FV next ex (vs.take 0) (vs.drop 0)):=rfl;have qI:Hid (FV next ex [] vs=(vgo next ex 0 vs&&Ep vs)):=kg_ hZ.2;generalize FV next ex [] vs=S at *
    go_loopw [3] (fun ix wr=>∃ (i:Nat),i<=vn∧ix=.int .i64 i∧Hid (S=FV next ex (vs.take i) (vs.drop i))∧Blk wr w.heap.size #[.int .i64 size,.int .i64 next,.slice ea en ec,.slice va vn vc,.slice ra rn rc,.slice la ln lc] 28∧Below w.heap.size w wr) (fun ix _=>vn-(intOf ix).toNat)
    case atStart=>exact⟨0,Zg _,rfl,hS,C,qu⟩
    case round=>
     clear c1 c3 C qu hS;obtain⟨i,hi,rfl,hI,C',hB⟩:=hrel;have d1:=C'.cell 1;have d2:=C'.cell 2;have d3:=C'.cell 3;simp only[lgA,lgB,lgC] at d1 d2 d3;by_cases hlt:i<vn
     ·obtain⟨b,o,x,qa,qn,qc,rfl,hx,e0,e1,e2,e3,hP,_,_⟩:=b5_ (h2.below hB) hlt
      have hb:Hid (S=(idB next (if i=0 then none else vs[i-1]?) x&&(nameB x.nm&&itemsB x.its ex)&&!((vs.take i).any (fun u=>CI u x))&&FV next ex (vs.take (i+1)) (vs.drop (i+1)))):=by
       show _=_;rw[hI.out,al_ hx,FV,nf_ (by rw[n2.out];omega),bx_ hx]
      obtain⟨m1,m2,m3⟩:=z4 x (Zc hx);rw[hP.len] at m2;have hA:=fun (u:World) (hu:Below wr.heap.size wr u)=>lF_ B x qa qn qc ea en ec ex u (hP.below hu) ((h1.below hB).below hu) z2 z1 qL m1 m2 m3;have qx:(i:Int)<vn:=by omega
      have qy:(0:Int)<=i:=by omega
      have h5:0<i->∃ y,vs[i-1]?=some y∧wr.cell? ⟨b,o+(i-1)*4,none⟩=some (.int .i64 y.id):=fun h0=>by
       obtain⟨b',o',y,_,_,_,qe,hy,f0,_⟩:=b5_ (h2.below hB) (show i-1<vn by omega);obtain⟨rfl,rfl⟩:b=b'∧o=o':=by simpa using qe
       exact⟨y,hy,f0⟩
      clear hx hI;have hn:Below wr.heap.size wr (wr.alloc (.cells #[.int .i64 x.id,.string x.nm,.bool x.fx,.slice qa qn qc] 80)):=by go_grown
      have X:=Blk.new wr #[.int .i64 x.id,.string x.nm,.bool x.fx,.slice qa qn qc] 80;have X0:(wr.alloc (.cells #[.int .i64 x.id,.string x.nm,.bool x.fx,.slice qa qn qc] 80)).cell? ⟨wr.heap.size,0,none⟩=some (.int .i64 x.id):=X.cell 0;have X1:(wr.alloc (.cells #[.int .i64 x.id,.string x.nm,.bool x.fx,.slice qa qn qc] 80)).cell? ⟨wr.heap.size,1,none⟩=some (.string x.nm):=X.cell 1;have X2:(wr.alloc (.cells #[.int .i64 x.id,.string x.nm,.bool x.fx,.slice qa qn qc] 80)).cell? ⟨wr.heap.size,2,none⟩=some (.bool x.fx):=X.cell 2;have X3:(wr.alloc (.cells #[.int .i64 x.id,.string x.nm,.bool x.fx,.slice qa qn qc] 80)).cell? ⟨wr.heap.size,3,none⟩=some (.slice qa qn qc):=X.cell 3;have g0:=Ac X0;have g1:=Ac X1;have g2:=Ac X2;have g3:=Ac X3;have g5:=Ac (Ab hn d1);have g6:=Ac (Ab hn d2);have g7:=Ac (Ab hn d3);have hE:=aA_ (wr.alloc (.cells #[.int .i64 x.id,.string x.nm,.bool x.fx,.slice qa qn qc] 80))
      cases hm:(decide (1<=x.id)&&decide (x.id<=1000000000))
      ·have hf:idB next (if i=0 then none else vs[i-1]?) x=false:=by unfold idB;rw[hm];simp
       rw[hf] at hb;simp only[Zr] at hb
       go_wp2_with fail
       refine ab_ (by kernel_rfl) (by kernel_rfl) ?_
       repeat (go_big_quiet_step (first | (go_at_call 25;have qq:=fun u:World=>ai_ x.id 1 1000000000 u;rw[hm] at qq;exact am_ (qq _))))
       refine wpQuiet_nil ?_;intro w2 he;have hg:=Aa hn (ah_ he);have hC:=Ab (ah_ he) X1;have C2:=C'.below hg;clear he;go_wp2;go_returns;exact⟨by rw[hR.out,hb.out];rfl,Aa hB hg⟩
      ·by_cases hnb:x.id<next
       ·have qm:decide (next<=x.id)=false:=YV (by omega);by_cases h0:0<i
        ·obtain⟨y,hy,f0⟩:=h5 h0;have g8:=Ac (Ab hn f0);have qG:decide ((0:Int)<(i:Int))=true:=decide_eq_true (by omega);have qQ:((i:Int)-1).toNat=i-1:=by omega
         rw[if_neg (by omega),hy] at hb;by_cases hyx:y.id<x.id
         ·have qr:decide (x.id<=y.id)=false:=YV (by omega);have hf:idB next (some y) x=true:=by unfold idB;rw[hm];simp[hnb,hyx]
          rw[hf] at hb;simp only[Zp] at hb
          cases hz:(nameB x.nm&&itemsB x.its ex)
          ·rw[hz] at hb;simp only[Zr] at hb
           go_wp2_with fail
           refine ab_ (by kernel_rfl) (by kernel_rfl) ?_
           repeat (go_big_quiet_step (first | (go_at_call 25;have qq:=fun u:World=>ai_ x.id 1 1000000000 u;rw[hm] at qq;exact am_ (qq _)) | (go_at_call 51;have qq:=fun (u:World) (hu:Below wr.heap.size wr u)=>hA u hu;rw[hz] at qq;exact an_ (qq _ (Aa hn (Grw.h _))))))
           refine wpQuiet_nil ?_;intro w2 he;have hg:=Aa hn (ah_ he);have hC:=Ab (ah_ he) X1;have C2:=C'.below hg;clear he;go_wp2;go_returns;exact⟨by rw[hR.out,hb.out];rfl,Aa hB hg⟩
          ·rw[hz] at hb;simp only[Zp] at hb
           go_wp2_with fail
           refine ab_ (by kernel_rfl) (by kernel_rfl) ?_
           repeat (go_big_quiet_step (first | (go_at_call 25;have qq:=fun u:World=>ai_ x.id 1 1000000000 u;rw[hm] at qq;exact am_ (qq _)) | (go_at_call 51;have qq:=fun (u:World) (hu:Below wr.heap.size wr u)=>hA u hu;rw[hz] at qq;exact an_ (qq _ (Aa hn (Grw.h _))))))
           refine wpQuiet_nil ?_;intro w2 he;have hg:=Aa hn (ah_ he);have hC:=Ab (ah_ he) X1;have C2:=C'.below hg;clear he;have hW:=Aa hB hg;clear hg hn g0 g1 g2 g3 g5 g6 g7 hE X X0 X1 X2 X3
           go_wp2_with fail
           go_loopw [5] (fun ix wq=>∃ (k:Nat),k<=i∧ix=.int .i64 k∧Hid ((vs.take i).any (fun u=>CI u x)=((vs.take i).drop k).any (fun u=>CI u x))∧Below w2.heap.size w2 wq) (fun ix _=>i-(intOf ix).toNat)
           case atStart=>exact⟨0,Zg _,rfl,rfl,Yg _ _⟩
           case round=>
            obtain⟨k,hk,rfl,hJ,ho⟩:=hrel;have C3:=C2.below ho;have y3:=C3.cell 3;simp only[lgA,lgB,lgC] at y3;have y1:=Ab ho hC;by_cases hlk:k<i
            ·obtain⟨b',o',u,_,_,_,qe,hu,_,f1,_,_,_,_,_⟩:=b5_ (h2.below (Aa hW ho)) (show k<vn by omega);obtain⟨rfl,rfl⟩:b=b'∧o=o':=by simpa using qe
             have qz:(vs.take i)[k]?=some u:=by rw[Ya hlk];exact hu
             have qb:Hid ((vs.take i).any (fun u=>CI u x)=(CI u x||((vs.take i).drop (k+1)).any (fun u=>CI u x))):=by show _=_;rw[hJ.out,al_ qz];rfl
             clear hu qz qe hJ;have qJ:(k:Int)<vn:=by omega
             have qK:(0:Int)<=k:=by omega
             have hF:CI u x=(u.nm.toList==x.nm.toList):=rfl
             cases qf:(u.nm.toList==x.nm.toList)
             ·rw[hF,qf,Bool.false_or] at qb;have qo:¬ u.nm.toList=x.nm.toList:=by simpa using qf
              go_wp2_with fail
              go_quiet (fail)
              have qk:=Aa ho (Bi _ nq);go_wp2;go_roundw
              case rel=>exact⟨k+1,by omega,by go_num,qb,qk⟩
              case measure=>simp[intOf];omega
             ·rw[hF,qf,Bool.true_or] at qb;have qo:u.nm.toList=x.nm.toList:=by simpa using qf
              rw[qb.out] at hb;simp only[Bool.not_true,Zr] at hb
              go_wp2_with fail
              go_quiet (fail)
              have qk:=Aa ho (Bi _ nq);go_wp2;go_returns;exact⟨by rw[hR.out,hb.out];rfl,Aa hW qk⟩
            ·obtain rfl:k=i:=by omega
             have ha:(vs.take k).any (fun u=>CI u x)=false:=by rw[hJ.out,Ze (by simp;omega)];rfl
             rw[ha] at hb;simp only[Bool.not_false,Zp] at hb;go_wp2;go_roundw
             case rel=>exact⟨k+1,by omega,by go_num,hb,C3,Aa hW ho⟩
             case measure=>simp[intOf];omega
         ·have qr:decide (x.id<=y.id)=true:=decide_eq_true (by omega);have hf:idB next (some y) x=false:=by unfold idB;simp[hyx]
          rw[hf] at hb;simp only[Zr] at hb
          go_wp2_with fail
          refine ab_ (by kernel_rfl) (by kernel_rfl) ?_
          repeat (go_big_quiet_step (first | (go_at_call 25;have qq:=fun u:World=>ai_ x.id 1 1000000000 u;rw[hm] at qq;exact am_ (qq _))))
          refine wpQuiet_nil ?_;intro w2 he;have hg:=Aa hn (ah_ he);have hC:=Ab (ah_ he) X1;have C2:=C'.below hg;clear he;go_wp2;go_returns;exact⟨by rw[hR.out,hb.out];rfl,Aa hB hg⟩
        ·have qG:decide ((0:Int)<(i:Int))=false:=YV (by omega);rw[if_pos (by omega)] at hb;have hf:idB next none x=true:=by unfold idB;rw[hm];simp[hnb]
         rw[hf] at hb;simp only[Zp] at hb
         cases hz:(nameB x.nm&&itemsB x.its ex)
         ·rw[hz] at hb;simp only[Zr] at hb
          go_wp2_with fail
          refine ab_ (by kernel_rfl) (by kernel_rfl) ?_
          repeat (go_big_quiet_step (first | (go_at_call 25;have qq:=fun u:World=>ai_ x.id 1 1000000000 u;rw[hm] at qq;exact am_ (qq _)) | (go_at_call 51;have qq:=fun (u:World) (hu:Below wr.heap.size wr u)=>hA u hu;rw[hz] at qq;exact an_ (qq _ (Aa hn (Grw.h _))))))
          refine wpQuiet_nil ?_;intro w2 he;have hg:=Aa hn (ah_ he);have hC:=Ab (ah_ he) X1;have C2:=C'.below hg;clear he;go_wp2;go_returns;exact⟨by rw[hR.out,hb.out];rfl,Aa hB hg⟩
         ·rw[hz] at hb;simp only[Zp] at hb
          go_wp2_with fail
          refine ab_ (by kernel_rfl) (by kernel_rfl) ?_
          repeat (go_big_quiet_step (first | (go_at_call 25;have qq:=fun u:World=>ai_ x.id 1 1000000000 u;rw[hm] at qq;exact am_ (qq _)) | (go_at_call 51;have qq:=fun (u:World) (hu:Below wr.heap.size wr u)=>hA u hu;rw[hz] at qq;exact an_ (qq _ (Aa hn (Grw.h _))))))
          refine wpQuiet_nil ?_;intro w2 he;have hg:=Aa hn (ah_ he);have hC:=Ab (ah_ he) X1;have C2:=C'.below hg;clear he;have hW:=Aa hB hg;clear hg hn g0 g1 g2 g3 g5 g6 g7 hE X X0 X1 X2 X3
          go_wp2_with fail
          go_loopw [5] (fun ix wq=>∃ (k:Nat),k<=i∧ix=.int .i64 k∧Hid ((vs.take i).any (fun u=>CI u x)=((vs.take i).drop k).any (fun u=>CI u x))∧Below w2.heap.size w2 wq) (fun ix _=>i-(intOf ix).toNat)
          case atStart=>exact⟨0,Zg _,rfl,rfl,Yg _ _⟩
          case round=>
           obtain⟨k,hk,rfl,hJ,ho⟩:=hrel;have C3:=C2.below ho;have y3:=C3.cell 3;simp only[lgA,lgB,lgC] at y3;have y1:=Ab ho hC;by_cases hlk:k<i
           ·exact absurd hlk (by omega)
           ·obtain rfl:k=i:=by omega
            have ha:(vs.take k).any (fun u=>CI u x)=false:=by rw[hJ.out,Ze (by simp;omega)];rfl
            rw[ha] at hb;simp only[Bool.not_false,Zp] at hb;go_wp2;go_roundw
            case rel=>exact⟨k+1,by omega,by go_num,hb,C3,Aa hW ho⟩
            case measure=>simp[intOf];omega
       ·have qm:decide (next<=x.id)=true:=decide_eq_true (by omega);have hf:idB next (if i=0 then none else vs[i-1]?) x=false:=by unfold idB;simp[hnb]
        rw[hf] at hb;simp only[Zr] at hb
        go_wp2_with fail
        refine ab_ (by kernel_rfl) (by kernel_rfl) ?_
        repeat (go_big_quiet_step (first | (go_at_call 25;have qq:=fun u:World=>ai_ x.id 1 1000000000 u;rw[hm] at qq;exact am_ (qq _))))
        refine wpQuiet_nil ?_;intro w2 he;have hg:=Aa hn (ah_ he);have hC:=Ab (ah_ he) X1;have C2:=C'.below hg;clear he;go_wp2;go_returns;exact⟨by rw[hR.out,hb.out];rfl,Aa hB hg⟩
     ·obtain rfl:i=vn:=by omega
      have d4:=C'.cell 4;have d5:=C'.cell 5;simp only[lgA,lgB,lgC] at d4 d5;have qv:S=true:=by rw[hI.out,Ze (Zm n2.out)];rfl
      have qN:vgo next ex 0 vs=true:=by have:=qI.out;rw[qv] at this;simp at this;exact this.1
      have qM:=g2_ (by rw[n2.out];omega) qN;rw[qv,Zp] at hR
      go_wp2_with fail
      refine (je_ ra rn rc rf la ln lc lt _ (h3.below hB) (k3.1.2.2 hB0).2 (k3.1.2.2 hB0).1 (h4.below hB) z6 z8 z5 z7).mono ?_;rintro e wf ⟨hs,hK⟩;have C4:=C'.below hK;replace hK:=Aa hB hK;clear d1 d2 d3 d4 d5 C' hB
      cases hw:AB rf lt with
      |none=>
       rw[hw] at hs hM;replace hs:e=.returned (.tuple #[.slice none 0 0,.bool false]):=hs;subst hs;have qH:M=false:=hM.out.symm;rw[qH] at hR;clear hw;go_wp2;go_returns;exact⟨by rw[hR.out];rfl,hK⟩
      |some sm=>
       rw[hw] at hs hM;replace hM:Hid (BW sm (A9 vs)=M):=hM;obtain⟨a3,n3,cap3,rfl,R3⟩:=hs
       have qR:n3<=200:=by
        have hl:=R3.sl.len;unfold AB at hw;split at hw
        ·split at hw
         ·rename_i hh;obtain rfl:=Zi hw;have:=(a0_ hh).1;omega
         ·cases hw
        ·cases hw
       clear hw;have d3:=C4.cell 3;simp only[lgA,lgB,lgC] at d3
       go_wp2_with fail
       refine (ir_ B va i vc vs _ (h2.below hK) qM).mono ?_;rintro e wg ⟨⟨a4,n4,cap4,rfl,qS,R4⟩,hQ⟩;replace R3:=R3.below hQ;replace C4:=C4.below hQ;replace hQ:=Aa hK hQ;clear d3 hK
       go_wp2_with fail
       refine (ki_ a3 n3 cap3 sm a4 n4 cap4 (A9 vs) _ R3.sl R4.sl (by omega) (by omega)).mono ?_;rintro e wh ⟨rfl,hT⟩;rw[hM.out];replace C4:=C4.below hT;replace hT:=Aa hQ hT;clear R3 R4 hQ hM
       cases M
       ·go_wp2;go_returns;exact⟨by rw[hR.out];rfl,hT⟩
       ·rw[Zp] at hR
        go_wp2_with fail
        have qt:Hid (AD=((ex.drop 0).all (fun x=>(rf++lt).any (fun c=>c.o.a==x.a))&&(rf++lt).all (fun c=>ex.any (fun x=>x.a==c.o.a)))):=h7.out.symm;clear h7;generalize h8:(rf++lt).all (fun c=>ex.any (fun x=>x.a==c.o.a))=AL at *;replace h8:Hid ((rf++lt).all (fun c=>ex.any (fun x=>x.a==c.o.a))=AL):=h8
        go_loopw [8] (fun ix wr=>∃ (k:Nat),k<=en∧ix=.int .i64 k∧Hid (AD=((ex.drop k).all (fun x=>(rf++lt).any (fun c=>c.o.a==x.a))&&AL))∧Blk wr w.heap.size #[.int .i64 size,.int .i64 next,.slice ea en ec,.slice va i vc,.slice ra rn rc,.slice la ln lc] 28∧Below w.heap.size w wr) (fun ix _=>en-(intOf ix).toNat)
        case atStart=>exact⟨0,Zg _,rfl,qt,C4,hT⟩
        case round=>
         clear C4 hT qt;obtain⟨k,hk,rfl,h9,C5,hD⟩:=hrel;have d0:=C5.cell 0;have d1:=C5.cell 1;have d2:=C5.cell 2;have d3:=C5.cell 3;have d4:=C5.cell 4;have d5:=C5.cell 5;simp only[lgA,lgB,lgC] at d0 d1 d2 d3 d4 d5;by_cases hlt:k<en
         ·obtain⟨b,o,x,rfl,hx,c0,c1⟩:=be_ (h1.below hD) hlt;have hd:Hid (ex.drop k=x::ex.drop (k+1)):=al_ hx;have qx:(k:Int)<en:=by omega
          have qy:(0:Int)<=k:=by omega
          clear hx c1;have hp:=fun (u:World) (hu:Below wr.heap.size wr u)=>gJ_ size next (some ⟨b,o,none⟩) en ec va i vc ra rn rc la ln lc rf lt x.a u ((h3.below hD).below hu) ((h4.below hD).below hu) z5 z7;have g0:=Ac d0;have g1:=Ac d1;have g2:=Ac d2;have g3:=Ac d3;have g4:=Ac d4;have g5:=Ac d5;have gx:=Ac c0;have hE:=aA_ wr
          cases ha:(rf++lt).any (fun c=>c.o.a==x.a)
          ·have hO:Hid (AD=false):=by show _=_;rw[h9.out,hd.out,List.all_cons,ha];rfl
           go_wp2_with fail
           refine ab_ (by kernel_rfl) (by kernel_rfl) ?_
           repeat (go_big_quiet_step (first | (go_at_call 55;have qq:=hp;rw[ha] at qq;exact an_ (qq _ (Grw.h _)))))
           refine wpQuiet_nil ?_;intro w6 ht;have hH:=Aa hD (ah_ ht);clear ht g0 g1 g2 g3 g4 g5 gx hE ha hp;go_wp2;go_returns;exact⟨by rw[hR.out,hO.out];rfl,hH⟩
          ·have hO:Hid (AD=((ex.drop (k+1)).all (fun x=>(rf++lt).any (fun c=>c.o.a==x.a))&&AL)):=by show _=_;rw[h9.out,hd.out,List.all_cons,ha];rfl
           go_wp2_with fail
           refine ab_ (by kernel_rfl) (by kernel_rfl) ?_
           repeat (go_big_quiet_step (first | (go_at_call 55;have qq:=hp;rw[ha] at qq;exact an_ (qq _ (Grw.h _)))))
           refine wpQuiet_nil ?_;intro w6 ht;have C6:=C5.below (ah_ ht);have hH:=Aa hD (ah_ ht);clear ht g0 g1 g2 g3 g4 g5 gx hE ha hp;go_wp2;go_roundw
           case rel=>exact⟨k+1,by omega,by go_num,hO,C6,hH⟩
           case measure=>simp[intOf];omega
         ·obtain rfl:k=en:=by omega
          have hO:Hid (AD=AL):=by show _=_;rw[h9.out,Ze (Zm n1.out)];rfl
          clear h9;obtain⟨wi,qO⟩:∃ x,x=wr:=⟨_,rfl⟩;subst qO;have qP:=C5.lt;obtain⟨i0,qw,qA,qB,qC⟩:=info_parts Gl
          go_wp2_with fail
          go_region_held3 (fun u=>u.cell? ⟨w.heap.size,4,none⟩=some (.slice ra rn rc)∧u.cell? ⟨w.heap.size,5,none⟩=some (.slice la ln lc)) (go_keep) (first
           |(refine aJ_ rfl (ay_ _ _ 26 rfl wi.heap.size 68 i0 (.agg #[.int .i64 0,.int .i64 0,.string .empty,.int .i64 0]) 40 underlying26 qw qA qB qC rfl (by decide) aS_ a9_ a11 rn cap11 ([]++rf) rfl qh la ln lc lt rfl (h4.below (Aa hD hq)) (k4.1.2.2 hB0).2 (k4.1.2.2 hB0).1 (rn+ln) rfl (by unfold maxLen;omega) (by omega) hN ?_);intro a13 cap13 qg qs hY;have hv:Below wi.heap.size wi qg:=(Yi hq hY hN (aG_ fun ad ql=>(qh.block ad ql).1));have y14:=Ab hv d4;have y15:=Ab hv d5)
           |(refine aJ_ rfl (ay_ _ _ 26 rfl wi.heap.size 68 i0 (.agg #[.int .i64 0,.int .i64 0,.string .empty,.int .i64 0]) 40 underlying26 qw qA qB qC rfl (by decide) aS_ a9_ _ 0 0 [] rfl (by first | exact aw_ (Blk.new' wi _ _ _ rfl).drew (Zd _) | exact aw_ (Blk.new' wi _ _ _ rfl) (Zd _)) ra rn rc rf rfl (h3.below (Aa hD (by go_grown))) (k3.1.2.2 hB0).2 (k3.1.2.2 hB0).1 rn (Zq _) (by unfold maxLen;omega) (by omega) (by first | exact Nat.le_succ _ | (simp;omega) | simp) ?_);intro a11 cap11 qD qh hX;have hq:Below wi.heap.size wi qD:=(Yi (by go_grown) hX (by first | exact Nat.le_succ _ | (simp;omega) | simp) (aG_ fun ad ql=>(by cases ql;exact Zd _)));have hN:wi.heap.size<=qD.heap.size:=hq.size;have y4:=Ab hq d4;have y5:=Ab hq d5))
          have qE:=C5.below hv;have qj:=Aa hD hv;clear y4 y5 hq hN qh hX hY hv d0 d1 d2 d3 d4 d5 C5 qP;have L13:A8 qg a13 (rn+ln) (rf++lt):=qs.sl;have n13:Hid ((rf++lt).length=rn+ln):=L13.len;clear qs;have hV:Hid (AL=((rf++lt).drop 0).all (fun c=>ex.any (fun x=>x.a==c.o.a))):=h8.out.symm;clear h8
          go_wp2_with fail
          go_loopw [10] (fun ix wq=>∃ (j:Nat),j<=rn+ln∧ix=.int .i64 j∧Hid (AL=((rf++lt).drop j).all (fun c=>ex.any (fun x=>x.a==c.o.a)))∧Below qg.heap.size qg wq) (fun ix _=>rn+ln-(intOf ix).toNat)
          case atStart=>exact⟨0,Zg _,rfl,hV,Yg _ _⟩
          case round=>
           clear hV;obtain⟨j,hj,rfl,hJ,ho⟩:=hrel;have qF:=qE.below ho;have d2:=qF.cell 2;simp only[lgA,lgB,lgC] at d2;have hG:=Aa qj ho;by_cases hlj:j<rn+ln
           ·obtain⟨b,o,c,rfl,hc,c0,_,_,_⟩:=aN_ (L13.below ho) hlj;have hd:Hid ((rf++lt).drop j=c::(rf++lt).drop (j+1)):=al_ hc;have qx:(j:Int)<((rn+ln:Nat):Int):=by omega
            have qy:(0:Int)<=j:=by omega
            clear hc;have qd:=fun (u:World) (hu:Below wr.heap.size wr u)=>iC_ ea k ec ex c.o.a u ((h1.below hG).below hu) z1;have hr:=mA_ c.o.a ex 0;have g2:=Ac d2;have gx:=Ac c0;have hE:=aA_ wr
            cases ha:ex.any (fun x=>x.a==c.o.a)
            ·have qi:Hid (AL=false):=by show _=_;rw[hJ.out,hd.out,List.all_cons,ha];rfl
             rw[ha] at hr;replace hr:decide (atG c.o.a 0 ex<0)=true:=hr
             go_wp2_with fail
             refine ab_ (by kernel_rfl) (by kernel_rfl) ?_
             repeat (go_big_quiet_step (first | (go_at_call 56;exact am_ (qd _ (Grw.h _)))))
             refine wpQuiet_nil ?_;intro w6 ht;have hH:=Aa hG (ah_ ht);clear ht g2 gx hE ha qd;go_wp2;go_returns;exact⟨by rw[hR.out,hO.out,qi.out];rfl,hH⟩
            ·have qi:Hid (AL=((rf++lt).drop (j+1)).all (fun c=>ex.any (fun x=>x.a==c.o.a))):=by show _=_;rw[hJ.out,hd.out,List.all_cons,ha];rfl
             rw[ha] at hr;replace hr:decide (atG c.o.a 0 ex<0)=false:=hr
             go_wp2_with fail
             refine ab_ (by kernel_rfl) (by kernel_rfl) ?_
             repeat (go_big_quiet_step (first | (go_at_call 56;exact am_ (qd _ (Grw.h _)))))
             refine wpQuiet_nil ?_;intro w6 ht;have hH:=Aa ho (ah_ ht);clear ht g2 gx hE ha qd;go_wp2;go_roundw
             case rel=>exact⟨j+1,by omega,by go_num,qi,hH⟩
             case measure=>simp[intOf];omega
           ·obtain rfl:j=rn+ln:=by omega
            go_wp2;go_returns;exact⟨by rw[hR.out,hO.out,hJ.out,Ze (Zm n13.out)];rfl,hG⟩
   ·rw[n2.out,YV h6] at hR;simp only[Zr] at hR;go_enter func26,ntmps26
    go_wp2_with fail
    refine (aT_ size ea en ec ex _ (h1.below (by go_grown)) z2 z1).mono ?_;rintro e w1 ⟨rfl,rfl⟩;rw[hL]
    go_wp2_with fail
    refine (ai_ next 1 1000000000 _).mono ?_;rintro e w1 ⟨rfl,rfl⟩;rw[hU];go_wp2;go_returns;exact⟨by rw[hR.out];rfl,by go_grown⟩
end
end Go.Proofs.YtkiceokhlceciaaGreatDoor
