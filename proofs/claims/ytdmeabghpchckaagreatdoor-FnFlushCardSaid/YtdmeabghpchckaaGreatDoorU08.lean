/- The laws' comparisons of lists of items and volumes, where they are the same. -/
import Derived.Test.YtdmeabghpchckaaGreatDoorU04
import Derived.Test.YtdmeabghpchckaaGreatDoorU07
set_option maxHeartbeats 20000000
set_option maxRecDepth 100000
namespace Go.Proofs.YtdmeabghpchckaaGreatDoor
section
open Go Go.RowKit Go.BigFrame Tryz
variable{α:Type}{c:Array Value}{l:List Vo}{B b cap i j k n:Nat}{a:Option Addr}{row:Option Nat}{p:Po}{t:TypeId}{out v:Value}{w w':World}{x:α}{cs:α->List Value}
theorem Blk.offB (h:Blk w b c t)(hg:w.grownBy w' row)(hr:∀ k,row=some k->B<=k)(hb:b<B):Blk w' b c t:=
 (hg.block _ h.lt (fun e=>by have:=hr b e.symm;omega)).trans h
theorem ke_ (l a b:List Ct):AQ l (a++b)=AQ (AQ l a) b:=by simp[AQ]
theorem lE_ {v:Vo}(h:l[i]?=some v):A7 (l.take (i+1))=A7 (l.take i)++A0 v v.its:=by
 unfold A7;rw[bx_ h,ZQ];simp[Ei,A0]
theorem bA_ (B:Nat)(a:Option Addr)(n cap:Nat)(vs:List Vo)(w:World)(h:Ba B w a n vs)(ht:Ep vs):
  Calls prog 66 #[.slice a n cap] w fun e w'=>(∃ a' n' cap',e=.returned (.slice a' n' cap')∧n'<=42000∧(∀ x∈AA vs,-42000000<=x.n∧x.n<=42000000)∧Ad Ct.cs 4 46 w' w.heap.size a' n' cap' (AA vs))∧Below w.heap.size w w':=by
 have hg:Hid (vs.length=n):=h.len;have hN:n<=7:=by rw[<-hg.out];exact ht.1
 go_enter func66,ntmps66
 go_wp2_with fail
 go_loopw [3,4] (fun out ix wr=>∃ (i:Nat),i<=n∧ix=.int .i64 i∧Fnd wr w.heap.size out (AQ [] (A7 (vs.take i))) (6000*i)∧Below w.heap.size w wr) (fun _ ix _=>n-(intOf ix).toNat)
 case atStart=>exact⟨0,Zg _,rfl,⟨⟨_,0,0,rfl,Zg _,aw_ (Blk.new' _ _ _ _ rfl) (Zd _)⟩,fun x hx=>by cases hx⟩,(Yg _ _).alloc (Zd _) _⟩
 case round=>
  obtain⟨i,hi,rfl,hF,hB⟩:=hrel;obtain⟨wi,hC⟩:∃ x,x=wr:=⟨_,rfl⟩;subst hC;by_cases hlt:i<n
  ·obtain⟨b,o,v,ia,inn,icp,rfl,hv,c0,c1,c2,c3,hI,_,_⟩:=b5_ (h.below hB) hlt;obtain⟨t1,t2⟩:=ht.2 v (Zc hv);have hr:Hid (v.its.length=inn):=hI.len;rw[hr.out] at t1;have hE:(i:Int)<n:=by omega
   have hG:(0:Int)<=i:=by omega
   have hl:Hid (A7 (vs.take (i+1))=A7 (vs.take i)++A0 v v.its):=lE_ hv;clear hv;generalize A7 (vs.take i)=PA at *
   go_wp2_with fail
   go_loopw [3,5] (fun out ix wk=>∃ (k:Nat),k<=inn∧ix=.int .i64 k∧Fnd wk w.heap.size out (AQ [] (PA++A0 v (v.its.take k))) (6000*i+1000*k)∧Below wi.heap.size wi wk) (fun _ ix _=>inn-(intOf ix).toNat)
   case atStart=>exact⟨0,Zg _,rfl,by simpa[A0] using hF,Yg _ _⟩
   case round=>
    clear hF;obtain⟨k,hk,rfl,hF,hc⟩:=hrel;obtain⟨wk,hD⟩:∃ x,x=wr:=⟨_,rfl⟩;subst hD;have e0:=Ab hc c0;have e3:=Ab hc c3;by_cases hlk:k<inn
    ·obtain⟨b',o',x,pa,pn,pc,rfl,hx,d0,d1,hP,_,_,_⟩:=bO_ (hI.below hc) hlk;obtain⟨u1,u2⟩:=t2 x (Zc hx);have hs:Hid (x.ps.length=pn):=hP.len;rw[hs.out] at u1;have hK:(k:Int)<inn:=by omega
     have hL:(0:Int)<=k:=by omega
     have hm:Hid (A0 v (v.its.take (k+1))=A0 v (v.its.take k)++AS v.id x.nm x.ps):=fq_ hx;clear hx;generalize A0 v (v.its.take k)=PI at *
     go_wp2_with fail
     have he:Below wk.heap.size wk (wk.alloc (.cells #[.string x.nm,.slice pa pn pc] 134)):=by go_grown
     have X0:(wk.alloc (.cells #[.string x.nm,.slice pa pn pc] 134)).cell? ⟨wk.heap.size,0,none⟩=some (.string x.nm):=(Blk.new wk #[.string x.nm,.slice pa pn pc] 134).cell 0;have X1:(wk.alloc (.cells #[.string x.nm,.slice pa pn pc] 134)).cell? ⟨wk.heap.size,1,none⟩=some (.slice pa pn pc):=(Blk.new wk #[.string x.nm,.slice pa pn pc] 134).cell 1;have E0:=Ab he e0;have hy:=hP.below he;have hq:=hF.below he;generalize wk.alloc (.cells #[.string x.nm,.slice pa pn pc] 134)=W0 at *
     go_loopw [3,7] (fun out ix wj=>∃ (j:Nat),j<=pn∧ix=.int .i64 j∧Fnd wj w.heap.size out (AQ [] (PA++PI++AS v.id x.nm (x.ps.take j))) (6000*i+1000*k+j)∧Below W0.heap.size W0 wj) (fun _ ix _=>pn-(intOf ix).toNat)
     case atStart=>exact⟨0,Zg _,rfl,by simpa[AS] using hq,Yg _ _⟩
     case round=>
      clear hF hq;obtain⟨j,hj,rfl,hF,ha⟩:=hrel;have x0:=Ab ha X0;have x1:=Ab ha X1;have y0:=Ab ha E0;by_cases hlj:j<pn
      ·obtain⟨b2,o2,p,rfl,hp,f0,f1,f2⟩:=bi_ (hy.below ha) hlj;have hO:=u2 p (Zc hp);have hb:Hid (AS v.id x.nm (x.ps.take (j+1))=AS v.id x.nm (x.ps.take j)++(if p.a==0 then [] else [⟨⟨p.a,v.id,x.nm⟩,1⟩])):=gI_ hp;clear hp;generalize AS v.id x.nm (x.ps.take j)=PP at *;have hH:(j:Int)<pn:=by omega
       have hJ:(0:Int)<=j:=by omega
       by_cases hz:0<p.a
       ·have hn:(p.a==0)=false:=ZV.2 (by omega);rw[hn] at hb;simp only[Zj,if_false] at hb;obtain⟨⟨a2,n2,cap2,rfl,hA,R⟩,hf⟩:=hF
        go_wp2_with fail
        refine aE_ 16 (by kernel_rfl) (by kernel_rfl) ?_;simp only[ZP,Yx,ZR,YC]
        repeat still_step
        refine wpStill_nil ?_
        go_wp2_with fail
        have hh:=(Yg wr.heap.size wr).drew;refine (hr_ a2 n2 cap2 _ ⟨⟨p.a,v.id,x.nm⟩,1⟩ _ (R.sl.below hh) (by omega) (fun z ho=>by have:=hf z ho;omega) (by simp)).mono ?_;rintro e w3 ⟨⟨a3,n3,cap3,rfl,hM,R3⟩,hu⟩;have hw:Below wr.heap.size wr w3:=Aa hh hu;have hQ:=hB.size;have hR:=hc.size;have hS:=he.size;have hT:=ha.size;have hU:=hh.size;go_wp2;go_roundw
        case rel=>
         refine⟨j+1,by omega,by go_num,⟨⟨a3,n3,cap3,rfl,by omega,?_⟩,?_⟩,Aa ha hw⟩
         ·rw[hb.out,<-ZC,ke_];exact R3.mono (by omega)
         ·rw[hb.out,<-ZC,ke_];intro z ho
          have:=lD_ (B:=1000*((6000*i+1000*k+j:Nat):Int)) (by omega) (c:=⟨⟨p.a,v.id,x.nm⟩,1⟩) (by simp) (by simp) hf z ho
          omega
        case measure=>simp[intOf];omega
       ·have hn:(p.a==0)=true:=by simp;omega
        rw[hn] at hb;simp only[if_true,Yy] at hb;go_wp2;go_roundw
        case rel=>exact⟨j+1,by omega,by go_num,by rw[hb.out];exact hF.mono (by omega),ha⟩
        case measure=>simp[intOf];omega
      ·obtain rfl:j=pn:=by omega
       go_wp2;go_roundw
       case rel=>
        refine⟨k+1,by omega,by go_num,?_,Aa hc (Aa he ha)⟩;rw[hm.out,<-ZC];rw[Zk (Zm hs.out)] at hF;exact hF.mono (by omega)
       case measure=>simp[intOf];omega
    ·obtain rfl:k=inn:=by omega
     go_wp2;go_roundw
     case rel=>
      refine⟨i+1,by omega,by go_num,?_,Aa hB hc⟩;rw[hl.out,<-Zk (l:=v.its) (Zm hr.out)];exact hF.mono (by omega)
     case measure=>simp[intOf];omega
  ·obtain rfl:i=n:=by omega
   obtain⟨⟨a2,n2,cap2,rfl,hA,R⟩,hf⟩:=hF;go_wp2;go_returns;rw[Zk (Zm hg.out)] at R hf;exact⟨⟨a2,n2,cap2,rfl,by omega,(fun x hx=>by have:=hf x hx;omega),R⟩,hB⟩
theorem ir_ (B:Nat)(a:Option Addr)(n cap:Nat)(vs:List Vo)(w:World)(h:Ba B w a n vs)(ht:DO vs):
  Calls prog 66 #[.slice a n cap] w fun e w'=>(∃ a' n' cap',e=.returned (.slice a' n' cap')∧n'<=42000∧Ad Ct.cs 4 46 w' w.heap.size a' n' cap' (AA vs))∧Below w.heap.size w w':=by
 refine (bA_ B a n cap vs w h ht.wide).mono ?_;rintro e w' ⟨⟨a',n',cap',he,hn,_,R⟩,hB⟩;exact⟨⟨a',n',cap',he,hn,R⟩,hB⟩
end
section
open Go.RowKit Go.BigFrame Go.Lib Tryz
variable{B e n:Nat}{w:World}
theorem kf_ (addr:Int):∀ (l:List Ex) (k:Nat),(atG addr k l=-1∧AK addr l=⟨#[]⟩)∨∃ (j:Nat) (x:Ex),l[j]?=some x∧atG addr k l=(k:Int)+j∧AK addr l=x.d
 |[],k=>.inl ⟨rfl,rfl⟩
 |e::r,k=>by
  unfold atG AK;split
  ·rename_i h;exact .inr ⟨0,e,rfl,by simp,rfl⟩
  ·rename_i h;rcases kf_ addr r (k+1) with⟨h1,h2⟩ | ⟨j,x,h1,h2,h3⟩
   ·exact .inl ⟨h1,h2⟩
   ·exact .inr ⟨j+1,x,by simpa using h1,by rw[h2];omega,h3⟩
theorem eo_ (a:Option Addr)(n cap:Nat)(l:List Pt)(a':Option Addr)(n' cap':Nat)(e:List Ex)(w:World)(h:AM w a n l)(h':Bb w a' n' e)(hstr:BP e)(hn:n<=16)(hn':n'<=4194304)(hall:∀ p∈l,1<=p.n∧p.n<=100∧(p.a≠0->0<=p.f∧p.f<20)):
  Calls prog 113 #[.slice a n cap,.slice a' n' cap'] w fun x w'=>Gx x (cgo e ⟨#[]⟩ l)∧Below w.heap.size w w':=by
 have hg:Hid (l.length=n):=h.len;have hf:Hid (cgo e ⟨#[]⟩ l=cgo e ⟨#[]⟩ (l.drop 0)):=rfl;generalize cgo e ⟨#[]⟩ l=R at *;obtain⟨i0,hi,hx,hy,hz⟩:=info_parts Hp;go_enter func113,ntmps113
 go_wp2_with fail
 go_loopw [6,7] (fun out ix wr=>∃ (k:Nat) (s:ByteArray),k<=n∧ix=.int .i64 k∧s.size<=100*k∧out=.string s∧Hid (R=cgo e s (l.drop k))∧Below w.heap.size w wr) (fun _ ix _=>n-(RowKit.intOf ix).toNat)
 case atStart=>exact⟨0,⟨#[]⟩,Zg _,rfl,by simp[ByteArray.size],rfl,hf,Yg _ _⟩
 case round=>
  obtain⟨k,s,hk,rfl,hm,rfl,hI,hB⟩:=hrel;have hw:=hB.size;by_cases hlt:k<n
  ·obtain⟨b,o,p,rfl,hp,c0,c1,c2⟩:=bi_ (h.below hB) hlt;have hd:Hid (l.drop k=p::l.drop (k+1)):=al_ hp;obtain⟨hH,hJ,hu⟩:=hall p (Zc hp);obtain⟨pa,pf,pn⟩:=p;dsimp only at *;obtain⟨pk,rfl⟩:∃ pk:Nat,pn=pk:=⟨pn.toNat,by omega⟩
   cases ha:(pa==0)
   ·have ht:pa≠0:=by simpa using ha
    obtain⟨f0,f20⟩:=hu ht;obtain⟨fk,rfl⟩:∃ fk:Nat,pf=fk:=⟨pf.toNat,by omega⟩;have hc:Hid (R=match pieceO e ⟨pa,fk,pk⟩ with | none=>none | some d=>cgo e (s++d) (l.drop (k+1))):=by show _=_;rw[hI.out,hd.out];rfl
    have hb:Hid (pieceO e ⟨pa,fk,pk⟩=if ((AK pa e).size:Int)<fk+pk then none else some ((AK pa e).extract fk (fk+pk))):=by
     show _=_;simp only[pieceO,ha,Zj,if_false,Int.toNat_natCast];rw[show ((fk:Int)+(pk:Int)).toNat=fk+pk by omega]
    have hD:=ek_ (addr:=pa) hstr
    go_wp2_with fail
    refine (iC_ a' n' cap' e pa _ ((h'.below hB).alloc _) hn').mono ?_;rintro x w3 ⟨rfl,rfl⟩;rcases kf_ pa e 0 with⟨g1,g2⟩ | ⟨j,x,g1,g2,g3⟩
    ·rw[g1];rw[g2,if_pos (by simp[ByteArray.size];omega)] at hb;clear hI hd hp c0 c1 c2
     go_wp2_with fail
     go_quiet (fail)
     go_wp2;go_returns;rw[hc.out,hb.out];exact⟨rfl,below_drewN (by go_grown) _⟩
    ·rw[g2,show ((0:Nat):Int)+(j:Int)=j by omega];rw[g3] at hb hD;have hj:j<n':=by rw[<-h'.len];exact (Zb.1 g1).1
     obtain⟨b',o',x',rfl,hr,y0,y1⟩:=be_ ((h'.below hB).alloc (.cells #[.int .i64 pa,.int .i64 fk,.int .i64 pk] 146)) hj;rw[g1] at hr;obtain rfl:=Zi hr;have hl:Below w.heap.size w (wr.alloc (.cells #[.int .i64 pa,.int .i64 fk,.int .i64 pk] 146)):=hB.alloc hw _;have z0:(wr.alloc (.cells #[.int .i64 pa,.int .i64 fk,.int .i64 pk] 146)).cell? ⟨wr.heap.size,0,none⟩=some (.int .i64 pa):=by simp
     have z1:(wr.alloc (.cells #[.int .i64 pa,.int .i64 fk,.int .i64 pk] 146)).cell? ⟨wr.heap.size,1,none⟩=some (.int .i64 fk):=by simp
     have z2:(wr.alloc (.cells #[.int .i64 pa,.int .i64 fk,.int .i64 pk] 146)).cell? ⟨wr.heap.size,2,none⟩=some (.int .i64 pk):=by simp
     clear c0 c1 c2 hI hd hp g1 g2 g3;generalize wr.alloc (.cells #[.int .i64 pa,.int .i64 fk,.int .i64 pk] 146)=W at *;obtain⟨xa,D⟩:=x;dsimp only at *;have hC:(0:Int)<=j:=by omega
     have hE:(j:Int)<n':=by omega
     have hF:decide ((j:Int)<0)=false:=by simp
     by_cases hlt2:(D.size:Int)<fk+pk
     ·rw[if_pos hlt2] at hb
      go_wp2_with fail
      go_quiet (fail)
      go_wp2;go_returns;rw[hc.out,hb.out];exact⟨rfl,below_drewN hl _⟩
     ·rw[if_neg hlt2] at hb;have hG:(fk:Int)+(pk:Int)<=D.size:=by omega
      have hv:=fun W'=>run_slice_string (P:=prog) W' 9 D .i64 .i64 fk (fk+pk) underlying9 (by omega) (by omega) (by omega);rw[show ((fk:Int)+(pk:Int)).toNat=fk+pk by omega,Int.toNat_natCast] at hv;have hK:(D.extract fk (fk+pk)).size=pk:=by rw[ByteArray.size_extract];omega
      generalize D.extract fk (fk+pk)=X at *
      go_wp2_with fail
      go_quiet (fail)
      have hs:=below_drewN hl nq;replace z0:(W.drewN nq).cell? ⟨wr.heap.size,0,none⟩=some (.int .i64 pa):=z0;replace z1:(W.drewN nq).cell? ⟨wr.heap.size,1,none⟩=some (.int .i64 fk):=z1;replace z2:(W.drewN nq).cell? ⟨wr.heap.size,2,none⟩=some (.int .i64 pk):=z2;replace y1:(W.drewN nq).cell? ⟨b',o'+j*2+1,none⟩=some (.string D):=y1;clear y0;generalize W.drewN nq=W1 at *
      go_wp2_with fail
      go_quiet (fail)
      go_wp2;go_roundw
      case rel=>exact⟨k+1,s++X,by omega,by go_num,by rw[ByteArray.size_append];omega,rfl,by show _=_;rw[hc.out,hb.out],below_drewN hs _⟩
      case measure=>simp[RowKit.intOf];omega
   ·have hc:Hid (R=cgo e (s++zs pk) (l.drop (k+1))):=by
     show _=_;rw[hI.out,hd.out];simp[cgo,pieceO,ha]
    have hq:∀ u:World,(Instr.makeSlice 22 (.int .i64 (pk:Int)) (.int .i64 (pk:Int))).run prog u=.ok (.slice (some ⟨u.heap.size,0,none⟩) pk pk) (u.alloc (.cells (strCells (zs pk)).toArray 5)):=fun u=>by
     have hm:=run_make (P:=prog) u 22 5 i0 (.int .u8 0) underlying22 hi hx .i64 .i64 (pk:Int) (pk:Int) (by omega) (YB _) (by rw[hz];omega) (by omega);rw[jN_];simpa[hy,Value.cells,madeCells,Builtin.zeroCells] using hm
    have ho:∀ u:World,(convert 22 9 (.slice (some ⟨u.heap.size,0,none⟩) pk pk)).run prog (u.alloc (.cells (strCells (zs pk)).toArray 5))=.ok (.string (zs pk)) (u.alloc (.cells (strCells (zs pk)).toArray 5)):=fun u=>
     jO_ (B:=0) (e:=5) (n:=pk) ⟨by rw[strCells_length,ca_,Nat.mul_one],.inr ⟨u.heap.size,pk,_,rfl,Zg _,Blk.new u _ 5,Zd _,by unfold maxLen;omega,by simp[strCells_length,ca_],by rw[Nat.mul_one,Zk (by simp[strCells_length,ca_])]⟩⟩ 22 underlying22 underlying5 9 underlying9
    have hh:=hq (wr.alloc (.cells #[.int .i64 pa,.int .i64 pf,.int .i64 pk] 146));have he:=ho (wr.alloc (.cells #[.int .i64 pa,.int .i64 pf,.int .i64 pk] 146));rw[show (wr.alloc (.cells #[.int .i64 pa,.int .i64 pf,.int .i64 pk] 146)).heap.size=wr.heap.size+1 by simp] at hh he;have hA:=ca_ pk;generalize zs pk=Z at *;clear hq ho;go_wp2;go_roundw
    case rel=>exact⟨k+1,s++Z,by omega,by go_num,by rw[ByteArray.size_append];omega,rfl,hc,by go_grown⟩
    case measure=>simp[RowKit.intOf];omega
  ·obtain rfl:k=n:=by omega
   go_wp2;go_returns;rw[hI.out,Ze (by rw[hg.out];exact Zd _)];exact⟨rfl,hB⟩
end
section
open Go Go.RowKit Go.BigFrame Tryz
theorem jm_ {ps:List Pt}{e:List Ex}(h:Ao 400 e=true):(Aj ps e).isSome=(Ac ps&&(cgo e ⟨#[]⟩ ps).isSome):=by
 unfold Aj
 cases hp:Ac ps<;>simp[h]
theorem lF_ (B:Nat)(v:Vo)(pa:Option Addr)(pn pc:Nat)(ea:Option Addr)(en ec:Nat)(e:List Ex)(w:World)(h:Bf B w pa pn v.its)(he:Bb w ea en e)(hstr:BP e)(hen:en<=4194304)(hsp:Ao 400 e=true)(hnm:v.nm.size<=9223372036854775807)(hpn:pn<=4194304)(hI:Ge v.its):
  Calls prog 63 #[.agg #[.int .i64 v.id,.string v.nm,.bool v.fx,.slice pa pn pc],.slice ea en ec] w fun x w'=>x=.returned (.bool (nameB v.nm&&itemsB v.its e))∧Below w.heap.size w w':=by
 obtain⟨id,nm,fx,its⟩:=v;simp only at h hnm hI ⊢;have hr:Hid (its.length=pn):=h.len
 cases hw:nameB nm
 ·go_enter func63,ntmps63
  go_wp2_with fail
  refine (aq_ nm _ hnm).mono ?_;rintro x w1 ⟨rfl,rfl⟩;rw[hw];go_wp2;go_returns;exact⟨rfl,by go_grown⟩
 ·have hR:Hid ((true&&itemsB its e)=(decide (its.length<=5)&&igo e none its)):=by show _=_;rw[Zp];rfl
  generalize (true&&itemsB its e)=R at *;by_cases h5:pn<=5
  ·rw[hr.out,decide_eq_true h5,Zp] at hR;go_enter func63,ntmps63
   go_wp2_with fail
   refine (aq_ nm _ hnm).mono ?_;rintro x w1 ⟨rfl,hz⟩;rw[hw];have hE:Below w.heap.size w w1:=by rw[hz];go_grown
   have C:Blk w1 w.heap.size #[.int .i64 id,.string nm,.bool fx,.slice pa pn pc] 38:=by rw[hz];exact Blk.new w _ _
   have hC:=C.lt;clear hz;have c3:=C.cell 3;simp only[lgA,lgB,lgC] at c3
   go_wp2_with fail
   go_loopw [5] (fun ix wr=>∃ (k:Nat),k<=pn∧ix=.int .i64 k∧Hid (R=igo e (B3 its k) (its.drop k))∧Blk wr w.heap.size #[.int .i64 id,.string nm,.bool fx,.slice pa pn pc] 38∧Below w.heap.size w wr) (fun ix _=>pn-(intOf ix).toNat)
   case atStart=>exact⟨0,Zg _,rfl,hR,C,hE⟩
   case round=>
    clear c3;obtain⟨k,hk,rfl,hv,C',hB⟩:=hrel;have c3:=C'.cell 3;simp only[lgA,lgB,lgC] at c3;by_cases hC:k<pn
    ·obtain⟨b,o,x,qa,qn,qc,rfl,hx,c0,c1,hP,_,_,_⟩:=bO_ (h.below hB) hC
     have hb:Hid (R=(nameB x.nm&&(match B3 its k with | none=>true | some p=>bl p.nm.toList x.nm.toList)&&(Aj x.ps e).isSome&&igo e (B3 its (k+1)) (its.drop (k+1)))):=by
      show _=_;rw[hv.out,al_ hx,hB_,hx];rfl
     rw[jm_ hsp] at hb;obtain⟨m1,m2⟩:=hI x (Zc hx);have hD:x.ps.length=qn:=hP.len;rw[hD] at m2;have hH:(k:Int)<pn:=by omega
     have hJ:(0:Int)<=k:=by omega
     have hs:0<k->∃ y,B3 its k=some y∧wr.cell? ⟨b,o+(k-1)*2,none⟩=some (.string y.nm):=fun h0=>by
      obtain⟨b',o',y,_,_,_,hF,hy,d0,_⟩:=bO_ (h.below hB) (show k-1<pn by omega);obtain⟨rfl,rfl⟩:b=b'∧o=o':=by simpa using hF
      exact⟨y,by unfold B3;rw[if_neg (by omega)];exact hy,d0⟩
     have hc:∀ u:World,Below wr.heap.size wr u->Below w.heap.size w u:=fun u hu=>Aa hB hu;clear hx hv hD;have hg:=fun u:World=>aq_ x.nm u m1;have hh:=fun (u:World) (hu:Below wr.heap.size wr u)=>i7_ qa qn qc x.ps u (hP.below hu) m2;have hj:Below wr.heap.size wr (wr.alloc (.cells #[.string x.nm,.slice qa qn qc] 134)):=by go_grown
     have X:=Blk.new wr #[.string x.nm,.slice qa qn qc] 134;have x0:∀ g:Grw (wr.alloc (.cells #[.string x.nm,.slice qa qn qc] 134)),g.w.cell? ⟨wr.heap.size,0,none⟩=some (.string x.nm):=Ae (X.cell 0);have x1:∀ g:Grw (wr.alloc (.cells #[.string x.nm,.slice qa qn qc] 134)),g.w.cell? ⟨wr.heap.size,1,none⟩=some (.slice qa qn qc):=Ae (X.cell 1);have x3:=Ae (Ab hj c3);have hL:=aA_ (wr.alloc (.cells #[.string x.nm,.slice qa qn qc] 134))
     cases hp:nameB x.nm
     ·rw[hp] at hb
      go_wp2_with fail
      refine ab_ (by kernel_rfl) (by kernel_rfl) ?_
      repeat (go_big_quiet_step (first | (go_at_call 111;have qq:=hg;rw[hp] at qq;exact am_ (qq _))))
      refine wpQuiet_nil ?_;intro w2 hx;have hf:=Aa hj (ah_ hx);clear hx;go_wp2;go_returns;exact⟨by rw[hb.out];simp,hc _ hf⟩
     ·rw[hp,Zp] at hb;by_cases hk0:0<k
      ·obtain⟨y,hy,d0⟩:=hs hk0;have y0:=Ae (Ab hj d0);rw[hy] at hb;have ht:decide ((0:Int)<(k:Int))=true:=decide_eq_true (by omega);have hK:((k:Int)-1).toNat=k-1:=by omega
       cases hA:bl y.nm.toList x.nm.toList
       ·simp only[hA,Zr] at hb
        go_wp2_with fail
        refine ab_ (by kernel_rfl) (by kernel_rfl) ?_
        repeat (go_big_quiet_step (first | (go_at_call 111;have qq:=hg;rw[hp] at qq;exact am_ (qq _))))
        refine wpQuiet_nil ?_;intro w2 hx;have hf:=Aa hj (ah_ hx);have x1':=Ab (ah_ hx) (show (wr.alloc (.cells #[.string x.nm,.slice qa qn qc] 134)).cell? ⟨wr.heap.size,1,none⟩=some (.slice qa qn qc) from X.cell 1);have C2:=C'.below hf;clear hx;go_wp2;go_returns;exact⟨by rw[hb.out];rfl,hc _ hf⟩
       ·simp only[hA,Zp] at hb
        cases hn:Ac x.ps
        ·rw[hn,Zr,Zr] at hb
         go_wp2_with fail
         refine ab_ (by kernel_rfl) (by kernel_rfl) ?_
         repeat (go_big_quiet_step (first | (go_at_call 111;have qq:=hg;rw[hp] at qq;exact am_ (qq _)) | (go_at_call 112;have qq:=fun (u:World) (hu:Below wr.heap.size wr u)=>hh u hu;rw[hn] at qq;exact an_ (qq _ (Aa hj (Grw.h _))))))
         refine wpQuiet_nil ?_;intro w2 hx;have hf:=Aa hj (ah_ hx);have x1':=Ab (ah_ hx) (show (wr.alloc (.cells #[.string x.nm,.slice qa qn qc] 134)).cell? ⟨wr.heap.size,1,none⟩=some (.slice qa qn qc) from X.cell 1);have C2:=C'.below hf;clear hx;go_wp2;go_returns;exact⟨by rw[hb.out];rfl,hc _ hf⟩
        ·rw[hn,Zp] at hb;obtain⟨hm,hq⟩:=gd_ hn;rw[hP.len] at hm
         go_wp2_with fail
         refine ab_ (by kernel_rfl) (by kernel_rfl) ?_
         repeat (go_big_quiet_step (first | (go_at_call 111;have qq:=hg;rw[hp] at qq;exact am_ (qq _)) | (go_at_call 112;have qq:=fun (u:World) (hu:Below wr.heap.size wr u)=>hh u hu;rw[hn] at qq;exact an_ (qq _ (Aa hj (Grw.h _))))))
         refine wpQuiet_nil ?_;intro w2 hx;have hf:=Aa hj (ah_ hx);have x1':=Ab (ah_ hx) (show (wr.alloc (.cells #[.string x.nm,.slice qa qn qc] 134)).cell? ⟨wr.heap.size,1,none⟩=some (.slice qa qn qc) from X.cell 1);have C2:=C'.below hf;clear hx
         go_wp2_with fail
         refine (eo_ qa qn qc x.ps ea en ec e _ (hP.below hf) (he.below (hc _ hf)) hstr hm hen hq).mono ?_;rintro e1 w3 ⟨ha,hl⟩;replace C2:=C2.below hl;replace hl:=Aa hf hl
         cases ho:cgo e ⟨#[]⟩ x.ps with
         |none=>
          rw[ho] at ha hb;replace ha:e1=.returned (.tuple #[.string ⟨#[]⟩,.bool false]):=ha;subst ha;clear ho;go_wp2;go_returns;exact⟨by rw[hb.out];rfl,hc _ hl⟩
         |some s=>
          rw[ho] at ha hb;replace ha:e1=.returned (.tuple #[.string s,.bool true]):=ha;subst ha;clear ho;go_wp2;go_roundw
          case rel=>exact⟨k+1,by omega,by go_num,by show _=_;rw[hb.out];rfl,C2,hc _ hl⟩
          case measure=>simp[intOf];omega
      ·have hG:B3 its k=none:=by unfold B3;rw[if_pos (by omega)]
       have ht:decide ((0:Int)<(k:Int))=false:=YV (by omega);rw[hG] at hb;simp only[Zp] at hb
       cases hn:Ac x.ps
       ·rw[hn,Zr,Zr] at hb
        go_wp2_with fail
        refine ab_ (by kernel_rfl) (by kernel_rfl) ?_
        repeat (go_big_quiet_step (first | (go_at_call 111;have qq:=hg;rw[hp] at qq;exact am_ (qq _)) | (go_at_call 112;have qq:=fun (u:World) (hu:Below wr.heap.size wr u)=>hh u hu;rw[hn] at qq;exact an_ (qq _ (Aa hj (Grw.h _))))))
        refine wpQuiet_nil ?_;intro w2 hx;have hf:=Aa hj (ah_ hx);have x1':=Ab (ah_ hx) (show (wr.alloc (.cells #[.string x.nm,.slice qa qn qc] 134)).cell? ⟨wr.heap.size,1,none⟩=some (.slice qa qn qc) from X.cell 1);have C2:=C'.below hf;clear hx;go_wp2;go_returns;exact⟨by rw[hb.out];rfl,hc _ hf⟩
       ·rw[hn,Zp] at hb;obtain⟨hm,hq⟩:=gd_ hn;rw[hP.len] at hm
        go_wp2_with fail
        refine ab_ (by kernel_rfl) (by kernel_rfl) ?_
        repeat (go_big_quiet_step (first | (go_at_call 111;have qq:=hg;rw[hp] at qq;exact am_ (qq _)) | (go_at_call 112;have qq:=fun (u:World) (hu:Below wr.heap.size wr u)=>hh u hu;rw[hn] at qq;exact an_ (qq _ (Aa hj (Grw.h _))))))
        refine wpQuiet_nil ?_;intro w2 hx;have hf:=Aa hj (ah_ hx);have x1':=Ab (ah_ hx) (show (wr.alloc (.cells #[.string x.nm,.slice qa qn qc] 134)).cell? ⟨wr.heap.size,1,none⟩=some (.slice qa qn qc) from X.cell 1);have C2:=C'.below hf;clear hx
        go_wp2_with fail
        refine (eo_ qa qn qc x.ps ea en ec e _ (hP.below hf) (he.below (hc _ hf)) hstr hm hen hq).mono ?_;rintro e1 w3 ⟨ha,hl⟩;replace C2:=C2.below hl;replace hl:=Aa hf hl
        cases ho:cgo e ⟨#[]⟩ x.ps with
        |none=>
         rw[ho] at ha hb;replace ha:e1=.returned (.tuple #[.string ⟨#[]⟩,.bool false]):=ha;subst ha;clear ho;go_wp2;go_returns;exact⟨by rw[hb.out];rfl,hc _ hl⟩
        |some s=>
         rw[ho] at ha hb;replace ha:e1=.returned (.tuple #[.string s,.bool true]):=ha;subst ha;clear ho;go_wp2;go_roundw
         case rel=>exact⟨k+1,by omega,by go_num,by show _=_;rw[hb.out];rfl,C2,hc _ hl⟩
         case measure=>simp[intOf];omega
    ·obtain rfl:k=pn:=by omega
     go_wp2;go_returns;exact⟨by rw[hv.out,Ze (Zm hr.out)];rfl,hB⟩
  ·rw[hr.out,YV h5,Zr] at hR;go_enter func63,ntmps63
   go_wp2_with fail
   refine (aq_ nm _ hnm).mono ?_;rintro x w1 ⟨rfl,rfl⟩;rw[hw];go_wp2;go_returns;exact⟨by rw[hR.out];rfl,by go_grown⟩
end
section
open Go Go.RowKit
variable{next:Int}{e:List Ex}
def idB (next:Int)(q:Option Vo)(v:Vo):Bool:=decide (1<=v.id)&&decide (v.id<=1000000000)&&decide (v.id<next)&&(match q with | none=>true | some u=>decide (u.id<v.id))
def BT (u v:Vo):Bool:=u.nm.toList==v.nm.toList
def DJ (next:Int)(e:List Ex):List Vo->List Vo->Bool
 |_,[]=>true
 |seen,v::r=>idB next seen.getLast? v&&(nameB v.nm&&itemsB v.its e)&&!(seen.any (fun u=>BT u v))&&DJ next e (seen++[v]) r
def ndV:List Vo->List Vo->Bool
 |_,[]=>true
 |seen,v::r=>!(seen.any (fun u=>BT u v))&&ndV (seen++[v]) r
def CD (seen:List Vo):Int:=match seen.getLast? with | none=>0 | some u=>u.id
theorem mz_ (hn:next<=1000000000):∀ (vs seen:List Vo),(∀ u∈seen,1<=u.id)->DJ next e seen vs=(vgo next e (CD seen) vs&&ndV seen vs)
 |[],seen,_=>rfl
 |v::r,seen,hs=>by
  have ha:idB next seen.getLast? v=(decide (CD seen<v.id)&&decide (v.id<next)):=by
   unfold idB CD
   cases hl:seen.getLast? with
   |none=>rw[YH];simp;omega
   |some u=>
    have:=hs u (List.mem_of_getLast? hl)
    rw[YH];simp;omega
  by_cases hv:1<=v.id
  ·have ih:=mz_ hn r (seen++[v]) (fun u hu=>by
    rcases Zs.1 hu with hu | hu
    ·exact hs u hu
    ·simp at hu;subst hu;exact hv)
   have hl:CD (seen++[v])=v.id:=by simp[CD]
   rw[hl] at ih;simp only[DJ,vgo,ndV,ha,ih]
   cases decide (CD seen<v.id)<;>cases decide (v.id<next)<;>cases nameB v.nm<;>cases itemsB v.its e<;>cases vgo next e v.id r<;>cases (seen.any fun u=>BT u v)<;>simp
  ·have h0:decide (CD seen<v.id)=false:=by
    rw[YU];unfold CD
    cases hl:seen.getLast? with
    |none=>simp;omega
    |some u=>have:=hs u (List.mem_of_getLast? hl);simp;omega
   simp only[DJ,vgo,ha,h0,Zr]
theorem n9_:∀ (vs seen:List Vo),(seen.map (·.nm.toList)).Nodup->ndV seen vs=decide (((seen++vs).map (·.nm.toList)).Nodup)
 |[],seen,h=>by simp[ndV,h]
 |v::r,seen,h=>by
  cases ha:(seen.any fun u=>BT u v)
  ·have hb:v.nm.toList∉seen.map (·.nm.toList):=by
    intro hm;obtain⟨u,hu,he⟩:=ZT.1 hm;rw[List.any_eq_false] at ha;exact ha u hu (by simp[BT,he])
   have h2:((seen++[v]).map (·.nm.toList)).Nodup:=by
    rw[List.map_append,Yf];exact⟨h,by simp,fun x hx y hy=>by simp at hy;subst hy;intro e;subst e;exact hb hx⟩
   have ih:=n9_ r (seen++[v]) h2;simp only[ndV,ha,Bool.not_false,Zp,ih,ZC,YF,ZM]
  ·have:¬ ((seen++v::r).map (·.nm.toList)).Nodup:=by
    intro hn;rw[List.map_append,Yf] at hn;obtain⟨u,hu,he⟩:=ZN.1 ha;exact hn.2.2 u.nm.toList (List.mem_map_of_mem hu) v.nm.toList (by simp) (by simpa[BT] using he)
   simp only[ndV,ha,Bool.not_true,Zr];exact (YV this).symm
theorem kg_ {vs:List Vo}(hn:next<=1000000000):DJ next e [] vs=(vgo next e 0 vs&&CF vs):=by
 rw[mz_ hn vs [] (fun u hu=>by cases hu),n9_ vs [] List.nodup_nil];rfl
theorem mA_ (addr:Int):∀ (l:List Ex) (k:Nat),decide (atG addr k l<0)=!(l.any (fun x=>x.a==addr))
 |[],k=>by simp[atG]
 |x::r,k=>by
  cases hx:(x.a==addr)
  ·simp only[atG,hx,Zj,if_false,List.any_cons,Bool.false_or];exact mA_ addr r (k+1)
  ·simp only[atG,hx,if_true,List.any_cons,Bool.true_or,Bool.not_true,YU];omega
end
section
open Go Go.RowKit Go.BigFrame Tryz
variable{x:IR}{b:List Nat}{l:List Vo}{cap i k n:Nat}{a:Option Addr}{p:Po}{w w':World}
theorem ki_ (a:Option Addr)(n cap:Nat)(l:List Ct)(a':Option Addr)(n' cap':Nat)(m:List Ct)(w:World)(h:A4 w a n l)(h':A4 w a' n' m)(hn:n<=4194304)(hn':n'<=4194304):
  Calls prog 65 #[.slice a n cap,.slice a' n' cap'] w fun e w'=>e=.returned (.bool (Bn l m))∧Below w.heap.size w w':=by
 have hb:Hid (l.length=n):=h.len;have ha:Hid (m.length=n'):=h'.len;by_cases hne:n=n'
 ·subst hne;have hh:((n:Int) != (n:Int))=false:=by simp
  go_enter func65,ntmps65
  go_wp2_with fail
  go_loopw [5] (fun ix wr=>∃ (k:Nat),k<=n∧ix=.int .i64 k∧Hid (Bn l m=Bn (l.drop k) (m.drop k))∧Below w.heap.size w wr) (fun ix _=>n-(intOf ix).toNat)
  case atStart=>exact⟨0,Zg _,rfl,rfl,Yg _ _⟩
  case round=>
   obtain⟨k,hk,rfl,hI,hB⟩:=hrel;by_cases hlt:k<n
   ·obtain⟨b,o,p,rfl,hp,c0,c1,c2,c3⟩:=aN_ (h.below hB) hlt;obtain⟨b',o',q,rfl,hq,d0,d1,d2,d3⟩:=aN_ (h'.below hB) hlt;have hd:Hid (l.drop k=p::l.drop (k+1)):=al_ hp;have hg:Hid (m.drop k=q::m.drop (k+1)):=al_ hq;clear hp hq;have hj:(k:Int)<n:=by omega
    have hl:(0:Int)<=k:=by omega
    have he:=Hq p q
    cases hf:FD p q
    all_goals rw[hf] at he
    ·go_wp2_with fail
     go_quiet (fail)
     have hc:=below_drewN hB nq;go_wp2;go_returns;go_light;refine⟨ac_ ?_,hc⟩;rw[hI.out,hd.out,hg.out];simp only[Bn,hf,Zr]
    ·go_wp2_with fail
     go_quiet (fail)
     have hc:=below_drewN hB nq;go_wp2;go_roundw
     case rel=>exact⟨k+1,by omega,by go_num,by show _=_;rw[hI.out,hd.out,hg.out];simp only[Bn,hf,Zp],hc⟩
     case measure=>simp[intOf];omega
   ·obtain rfl:k=n:=by omega
    go_wp2;go_returns;go_light;refine⟨ac_ ?_,hB⟩;rw[hI.out,Ze (Zm hb.out),Ze (Zm ha.out)];rfl
 ·have hh:((n:Int) != (n':Int))=true:=by simp;omega
  go_enter func65,ntmps65;go_wp2;go_returns;go_light;refine⟨ac_ ?_,Yg _ _⟩;rw[gg_ (by rw[hb.out,ha.out];exact hne)]
theorem gJ_ (size next:Int)(ea:Option Addr)(en ec:Nat)(va:Option Addr)(vn vc:Nat)(ra:Option Addr)(rn rc:Nat)(la:Option Addr)(ln lc:Nat)(rf lt:List Ct)(addr:Int)(w:World)(h:A4 w ra rn rf)(h':A4 w la ln lt)(hn:rn<=4194304)(hn':ln<=4194304):
  Calls prog 67 #[.agg #[.int .i64 size,.int .i64 next,.slice ea en ec,.slice va vn vc,.slice ra rn rc,.slice la ln lc],.int .i64 addr] w fun e w'=>e=.returned (.bool ((rf++lt).any (fun c=>c.o.a==addr)))∧Below w.heap.size w w':=by
 have hc:Hid (rf.length=rn):=h.len;have hb:Hid (lt.length=ln):=h'.len;have hR:Hid ((rf++lt).any (fun c=>c.o.a==addr)=((rf.drop 0).any (fun c=>c.o.a==addr)||lt.any (fun c=>c.o.a==addr))):=by show _=_;rw[List.any_append];rfl
 generalize (rf++lt).any (fun c=>c.o.a==addr)=R at *;go_enter func67,ntmps67
 go_wp2_with fail
 have C4:(w.alloc (.cells #[.int .i64 size,.int .i64 next,.slice ea en ec,.slice va vn vc,.slice ra rn rc,.slice la ln lc] 28)).cell? ⟨w.heap.size,4,none⟩=some (.slice ra rn rc):=(Blk.new w _ _).cell 4;have C5:(w.alloc (.cells #[.int .i64 size,.int .i64 next,.slice ea en ec,.slice va vn vc,.slice ra rn rc,.slice la ln lc] 28)).cell? ⟨w.heap.size,5,none⟩=some (.slice la ln lc):=(Blk.new w _ _).cell 5;have ha:Below w.heap.size w (w.alloc (.cells #[.int .i64 size,.int .i64 next,.slice ea en ec,.slice va vn vc,.slice ra rn rc,.slice la ln lc] 28)):=by go_grown
 generalize w.alloc (.cells #[.int .i64 size,.int .i64 next,.slice ea en ec,.slice va vn vc,.slice ra rn rc,.slice la ln lc] 28)=W0 at *
 go_loopw [5] (fun ix wr=>∃ (k:Nat),k<=rn∧ix=.int .i64 k∧Hid (R=((rf.drop k).any (fun c=>c.o.a==addr)||lt.any (fun c=>c.o.a==addr)))∧Below W0.heap.size W0 wr) (fun ix _=>rn-(intOf ix).toNat)
 case atStart=>exact⟨0,Zg _,rfl,hR,Yg _ _⟩
 case round=>
  clear hR;obtain⟨k,hk,rfl,hI,hB⟩:=hrel;have c4:=Ab hB C4;by_cases hlt:k<rn
  ·obtain⟨b,o,p,rfl,hp,c0,c1,c2,c3⟩:=aN_ (h.below (Aa ha hB)) hlt;have hd:Hid (rf.drop k=p::rf.drop (k+1)):=al_ hp;clear hp c1 c2 c3;have hg:(k:Int)<rn:=by omega
   have hh:(0:Int)<=k:=by omega
   cases he:(p.o.a==addr)
   ·go_wp2;go_roundw
    case rel=>exact⟨k+1,by omega,by go_num,by show _=_;rw[hI.out,hd.out];simp only[List.any_cons,he,Bool.false_or],hB⟩
    case measure=>simp[intOf];omega
   ·go_wp2;go_returns;exact⟨ac_ (by rw[hI.out,hd.out];simp[he]),Aa ha hB⟩
  ·obtain rfl:k=rn:=by omega
   have hf:Hid (R=(lt.drop 0).any (fun c=>c.o.a==addr)):=by show _=_;rw[hI.out,Ze (Zm hc.out)];rfl
   obtain⟨wi,hl⟩:∃ x,x=wr:=⟨_,rfl⟩;subst hl;clear hI
   go_wp2_with fail
   go_loopw [6] (fun ix wr=>∃ (j:Nat),j<=ln∧ix=.int .i64 j∧Hid (R=(lt.drop j).any (fun c=>c.o.a==addr))∧Below W0.heap.size W0 wr) (fun ix _=>ln-(intOf ix).toNat)
   case atStart=>exact⟨0,Zg _,rfl,hf,hB⟩
   case round=>
    clear hf hB c4;obtain⟨j,hj,rfl,hI,hB⟩:=hrel;have c5:=Ab hB C5;by_cases hlt2:j<ln
    ·obtain⟨b,o,p,rfl,hp,c0,c1,c2,c3⟩:=aN_ (h'.below (Aa ha hB)) hlt2;have hd:Hid (lt.drop j=p::lt.drop (j+1)):=al_ hp;clear hp c1 c2 c3;have hg:(j:Int)<ln:=by omega
     have hh:(0:Int)<=j:=by omega
     cases he:(p.o.a==addr)
     ·go_wp2;go_roundw
      case rel=>exact⟨j+1,by omega,by go_num,by show _=_;rw[hI.out,hd.out];simp only[List.any_cons,he,Bool.false_or],hB⟩
      case measure=>simp[intOf];omega
     ·go_wp2;go_returns;exact⟨ac_ (by rw[hI.out,hd.out];simp[he]),Aa ha hB⟩
    ·obtain rfl:j=ln:=by omega
     go_wp2;go_returns;exact⟨ac_ (by rw[hI.out,Ze (Zm hb.out)];rfl),Aa ha hB⟩
theorem nf_ (h:i<=l.length):(l.take i).getLast?=if i=0 then none else l[i-1]?:=by
 rw[List.getLast?_eq_getElem?,Zz,ZZ h];split
 ·subst_vars;simp
 ·rw[Ya (by omega)]
end
end Go.Proofs.YtdmeabghpchckaaGreatDoor
