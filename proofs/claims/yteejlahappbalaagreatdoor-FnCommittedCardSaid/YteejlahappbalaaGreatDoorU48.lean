/- Texts of pools, read and written; what is drawn. -/
import Derived.Test.YteejlahappbalaaGreatDoorU44
import Derived.Test.YteejlahappbalaaGreatDoorU47
set_option maxHeartbeats 20000000
set_option maxRecDepth 100000
namespace Go.Proofs.YteejlahappbalaaGreatDoor
section
open Go.ChangeShapes Go.WideShapes Go.ChangeAt Go.RowKit Go.Deep Tryz
theorem c5:prog.cellsOf 5=1:=by kernel_rfl
theorem UG {H:Type}{enc:TypeId×Value->H}{w:World}{spare:Nat->Bool}{held:Bool}{a:Option Addr}{n cap:Nat}{d:DataW H}{p:List MemPlace}
  (h:DataW.Trod enc prog w 0 spare held 22 (.slice a n cap) d p):n<=maxLen∧DT w a n:=by
 obtain⟨fuel,hf⟩:=h;rcases open_slice underlying22 hf with⟨hb,_⟩ | ⟨ad,len,cap',m,n',D,Pl,hb,_,hl,hm,hn,_,hk⟩
 ·simp[Value.cells] at hb;obtain⟨rfl,rfl,rfl⟩:=hb;exact⟨Zg _,fun i hi=>by omega⟩
 ·simp[Value.cells] at hb;obtain⟨rfl,rfl,rfl⟩:=hb;have ho:n<=m:=by rw[hn];split<;>omega
  refine ⟨Zl hl hm,fun i hi=>?_⟩;have he:∀ i,i<n->∃ z:Int,0<=z∧z<=255∧w.cell? (ad.add i)=some (.int .u8 z):=by
   intro i hi;obtain⟨cs',h1,h2⟩:=hk i sH;rw[c5] at h1;obtain⟨_,hg,ha⟩:=World.cells?_some h1;obtain⟨z,e,_,hz⟩:=DataW.trod_int underlying5 h2
   match cs',hg with
   |[x0],_=>
    simp at e;subst e;have hc:=ha 0 sH;rw[Addr.add_add] at hc;have hh:=bounds_u8 hz;exact⟨z,hh.1,hh.2,by simpa using hc⟩
  obtain⟨z,h0,h1,hc⟩:=he i hi;obtain⟨z',_,_,hj⟩:=he 0 sH;obtain⟨b,o,rfl⟩:=Rc hj rfl;exact⟨b,o,z,rfl,h0,h1,by rw[Addr.add_lit] at hc;exact hc⟩
end
section
open Go Go.RowKit Go.BigFrame Tryz
theorem Mi (a:Int×Po)(i:Nat)(r:Option (Int×Po)):a.1<=(CN a i r).1:=by
 unfold CN;split
 ·exact YB _
 ·split
  ·omega
  ·exact YB _
theorem I3 (a:Int×Po)(i:Nat)(q:Int×Po)(h:q.1 % 3=i):q.1<=(CN a i (some q)).1:=by
 show q.1<=(if q.1 % 3=i∧a.1<q.1 then q else a).1;split
 ·exact YB _
 ·omega
theorem PZ {l:List Fl}(h:Aq l=true){i j:Nat}{f g:Fl}(hf:l[i]?=some f)(hg:l[j]?=some g)(hn:f.nm.toList=g.nm.toList):f=g:=by
 have hs:=(Kn l none (Ba h).2.2).2;rcases Nat.lt_trichotomy i j with ha | rfl | ha
 ·have:=hs i j f g ha hf hg;rw[hn,cn_] at this
  cases this
 ·rw[hf] at hg;exact Zi hg
 ·have:=hs j i g f ha hg hf;rw[hn,cn_] at this
  cases this
theorem Tk {d:Dk}(hd:Az d=true){i j:Nat}{f:Fl}{q:Int×Po}(hf:d.live[i]?=some f)(hn:f.nm.toList=(slN j).toList)(hq:rsO f.d=some q):rcO d j=some q:=by
 have h1:rdD d (slN j)=(f.d,true):=by
  rw[Ic _ hd];unfold rdL
  cases ha:atF d.live (slN j) with
  |none=>
   unfold atF at ha;have:=YL.1 ha f (Zc hf);simp[hn] at this
  |some k=>
   obtain⟨g,hg,he⟩:=Mq ha;obtain rfl:=PZ (BR hd).1 hf hg (hn.trans he.symm);simp only[hg]
 unfold rcO;rw[h1];exact hq
theorem sD{p:Prop}(h:p:=by
 simp only[Nat.reduceAdd] at this
 omega):p:=h
theorem U6 {d:Dk}{n:Int}{p:Po}(hc:CV d=some (n,p)){i:Nat}{f:Fl}{q:Int×Po}(hd:Az d=true)(hf:d.live[i]?=some f)(hq:rsO f.d=some q)(hn:f.nm.toList=(slN (q.1 % 3).toNat).toList):q.1<=n:=by
 have h0:=MS hq;have hr:=Tk hd hf hn hq;have hA:(Bp d 3).1=n:=by
  unfold CV at hc;split at hc
  ·cases hc
  ·rw[Zi hc]
 rw[<-hA];have e3:∀ k,(Bp d (k+1)).1=(CN (Bp d k) k (rcO d k)).1:=fun _=>rfl;have l1:=Mi (Bp d 2) 2 (rcO d 2);have l2:=Mi (Bp d 1) 1 (rcO d 1);rw[<-e3] at l1 l2;simp only[Nat.reduceAdd] at l1 l2;rcases (show q.1 % 3=0∨q.1 % 3=1∨q.1 % 3=2 by omega) with e | e | e
 ·rw[e] at hr;have:=I3 (Bp d 0) 0 q e;rw[<-hr] at this;rw[show ((0:Int).toNat)=0 from rfl,<-e3] at this;exact sD
 ·rw[e] at hr;have:=I3 (Bp d 1) 1 q e;rw[<-hr] at this;rw[show ((1:Int).toNat)=1 from rfl,<-e3] at this;exact sD
 ·rw[e] at hr;have:=I3 (Bp d 2) 2 q e;rw[<-hr] at this;rw[show ((2:Int).toNat)=2 from rfl,<-e3] at this;exact sD
theorem Q7 {s:ByteArray}{q:Int×Po}(h:rsO s=some q):Ai q.2=true∧q.2.lt=[]:=by
 unfold rsO at h;split at h
 ·next hb=>
  cases hn:numP (hdB (El s.data.toList)) with
  |none=>rw[hn] at h;cases h
  |some n=>
   rw[hn] at h
   cases ha:Dh (tlB (El s.data.toList)) with
   |none=>rw[ha] at h;cases h
   |some p=>
    rw[ha] at h;simp only[YO] at h;split at h
    ·next hs=>
     obtain rfl:=Zi h;show Ai p=true∧p.lt=[];by_cases hc:(0<=n∧n<=1000000000)∧Ai p=true∧p.lt=[]
     ·exact hc.2
     ·exact pj
    ·cases h
 ·cases h
theorem Pp {d:Dk}(i:Nat):(Bp d i).1<0∨Ai (Bp d i).2=true∧(Bp d i).2.lt=[]:=by
 induction i with
 |zero=>exact .inl (by show (-1:Int)<0;omega)
 |succ i ih=>
  show (CN (Bp d i) i (rcO d i)).1<0∨Ai (CN (Bp d i) i (rcO d i)).2=true∧(CN (Bp d i) i (rcO d i)).2.lt=[];unfold CN rcO;split
  ·exact ih
  ·next q hq=>
   split
   ·split at hq
    ·exact .inr (Q7 hq)
    ·cases hq
   ·exact ih
theorem Pw {d:Dk}{n:Int}{p:Po}(hc:CV d=some (n,p)):Az d=true∧Ai p=true∧p.lt=[]:=by
 have hd:Az d=true:=by
  cases hd:Az d with
  |true=>rfl
  |false=>rw[La hd] at hc;cases hc
 unfold CV at hc;split at hc
 ·cases hc
 ·next hn=>
  have h3:=(Pp (d:=d) 3).resolve_left hn;rw[Zi hc] at h3;exact⟨hd,h3⟩
theorem Sa (d:Dk):A7 ((CV d).elim Ao (·.2)):=by
 unfold CV;split
 ·exact DP
 ·exact (H1 d 3).2
theorem AC.vsO {B:Nat}{w:World}{p:Po}{ea va ra la:Option Addr}{en ec vn vc rn rc ln lc:Nat}(h:AC B w (.agg #[.int .i64 p.size,.int .i64 p.next,.slice ea en ec,.slice va vn vc,.slice ra rn rc,.slice la ln lc]) p):Ek B w va vn p.vs:=by
 obtain⟨_,_,_,_,_,_,_,_,_,_,_,_,hv,_,⟨h2,_⟩,_⟩:=h;simp only[Value.agg.injEq,Array.mk.injEq,List.cons.injEq,Value.slice.injEq,and_true,true_and] at hv;obtain⟨_,⟨rfl,rfl,_⟩,_,_⟩:=hv;exact h2
theorem Gr (B B':Nat)(hB0:0<B)(hB1:0<B')(v v':Value)(p:Po)(w:World)(h:AC B w v p)(h':AC B' w v' p)(hd:A7 p) :
  Calls prog 8 #[v,v'] w fun e w'=>e=.returned (.bool true)∧Below w.heap.size w w':=by
 obtain⟨ea,en,ec,va,vn,vc,ra,rn,rc,la,ln,lc,rfl⟩:=h.cells;obtain⟨ea1,en1,ec1,va1,vn1,vc1,ra1,rn1,rc1,la1,ln1,lc1,rfl⟩:=h'.cells;obtain rfl:vn=vn1:=h.vsO.len.symm.trans h'.vsO.len;have hc:vn<=9223372036854775807:=by rw[<-h.vsO.len];exact Zl hd.2.2.1 sJ
 obtain⟨T,hT⟩:∃ T,Hid (B9 p=T):=⟨_,rfl⟩;go_enter func8,ntmps8;go_wp2_with fail;have hW:Below w.heap.size w ((w.alloc (.cells #[.int .i64 p.size,.int .i64 p.next,.slice ea en ec,.slice va vn vc,.slice ra rn rc,.slice la ln lc] 33)).alloc (.cells #[.int .i64 p.size,.int .i64 p.next,.slice ea1 en1 ec1,.slice va1 vn vc1,.slice ra1 rn1 rc1,.slice la1 ln1 lc1] 33)):=sM;have C:=(Blk.new w #[.int .i64 p.size,.int .i64 p.next,.slice ea en ec,.slice va vn vc,.slice ra rn rc,.slice la ln lc] 33).alloc (.cells #[.int .i64 p.size,.int .i64 p.next,.slice ea1 en1 ec1,.slice va1 vn vc1,.slice ra1 rn1 rc1,.slice la1 ln1 lc1] 33);have D:Blk ((w.alloc (.cells #[.int .i64 p.size,.int .i64 p.next,.slice ea en ec,.slice va vn vc,.slice ra rn rc,.slice la ln lc] 33)).alloc (.cells #[.int .i64 p.size,.int .i64 p.next,.slice ea1 en1 ec1,.slice va1 vn vc1,.slice ra1 rn1 rc1,.slice la1 ln1 lc1] 33)) (w.heap.size+1) #[.int .i64 p.size,.int .i64 p.next,.slice ea1 en1 ec1,.slice va1 vn vc1,.slice ra1 rn1 rc1,.slice la1 ln1 lc1] 33:=Blk.new' _ _ _ _ sK;replace h:=h.below hW;replace h':=h'.below hW;generalize (w.alloc (.cells #[.int .i64 p.size,.int .i64 p.next,.slice ea en ec,.slice va vn vc,.slice ra rn rc,.slice la ln lc] 33)).alloc (.cells #[.int .i64 p.size,.int .i64 p.next,.slice ea1 en1 ec1,.slice va1 vn vc1,.slice ra1 rn1 rc1,.slice la1 ln1 lc1] 33)=w1 at *;have kA:∀ u,Below w1.heap.size w1 u->Calls prog 17 #[.agg #[.int .i64 p.size,.int .i64 p.next,.slice ea en ec,.slice va vn vc,.slice ra rn rc,.slice la ln lc]] u fun e w'=>e=.returned (.string T)∧Below u.heap.size u w':=fun u hu=>by
  have:=De B hB0 _ p u (h.below hu) hd (fun hp=>EW hp);rw[hT.out] at this;exact this
 have kB:∀ u,Below w1.heap.size w1 u->Calls prog 17 #[.agg #[.int .i64 p.size,.int .i64 p.next,.slice ea1 en1 ec1,.slice va1 vn vc1,.slice ra1 rn1 rc1,.slice la1 ln1 lc1]] u fun e w'=>e=.returned (.string T)∧Below u.heap.size u w':=fun u hu=>by
  have:=De B' hB1 _ p u (h'.below hu) hd (fun hp=>EW hp);rw[hT.out] at this;exact this
 obtain⟨z0,z1,z2,z3,z4,z5⟩:=C.six';obtain⟨y0,y1,y2,y3,y4,y5⟩:=D.six';have g0:=Ad z0;have g1:=Ad z1;have g2:=Ad z2;have g3:=Ad z3;have g4:=Ad z4;have g5:=Ad z5;have m0:=Ad y0;have m1:=Ad y1;have m2:=Ad y2;have m3:=Ad y3;have m4:=Ad y4;have m5:=Ad y5;have he:=aA_ w1;refine ab_ sI sI ?_;iterate 24 (go_big_quiet_step (first | (go_at_call 17;exact an_ (kA _ (Grw.h _)))))
 repeat (go_big_quiet_step (first | (go_at_call 17;exact an_ (kB _ (Grw.h _)))))
 refine wpQuiet_nil ?_;intro w8 ha;have hb:=Aa hW (ah_ ha);clear ha g0 g1 g2 g3 g4 g5 m0 m1 m2 m3 m4 m5 he kA kB z0 z1 z2 z3 z4 z5 y0 y1 y2 y3 y4 y5;go_wp2;go_returns;exact⟨rfl,hb⟩
theorem Nj {u:World}{b:Nat}{la:Option Addr}{ln lc:Nat}{sa:Option Addr}{sn sc:Nat}{oa:Option Addr}{on oc:Nat}(h:Blk u b #[.slice la ln lc,.slice sa sn sc,.slice oa on oc] 27):DV u b la ln lc sa sn sc oa on oc:=⟨h,(Av h).1⟩
theorem PY {d:Dk}(hd:Az d=true){i:Nat}{f:Fl}(h:d.live[i]?=some f):f.d.size<=2000000:=by
 have h2:=Ck (Zc h);have h3:=(Ba (BR hd).1).2.1;omega
theorem walkCo (a:Option Addr)(n cap:Nat)(w:World)(h:DT w a n)(hm:n<=9223372036854775807)(hG:Glb w) :
  Calls prog 3 #[.slice a n cap] w fun e w'=>e=.returned (.bool true)∧Below w.heap.size w w':=by
 by_cases hn:n<=1048576
 focus
  have hb:decide (1048576<n)=false:=sN
  go_enter func3,ntmps3
  go_wp2_with fail
  refine (JO a n cap _ hm).mono ?_
  rintro e w1 ⟨rfl,rfl⟩
  rw[hb]
  go_wp2_with fail
  refine (Gp a n cap _ h hn).mono ?_
  rintro e w2 ⟨⟨v,d,rfl,R,hd⟩,hI⟩
  replace R:=R.at
  obtain⟨la,ln,lc,sa,sn,sc,oa,on,oc,rfl,hL,-⟩:=id R
  clear hb h
  go_upto_region 4 with fail
  obtain⟨W,hW⟩:∃ W,W=w2.alloc (.cells #[.slice la ln lc,.slice sa sn sc,.slice oa on oc] 27):=⟨_,rfl⟩
  have hb:Below w2.heap.size w2 W:=rW
  have D:=Blk.new w2 #[.slice la ln lc,.slice sa sn sc,.slice oa on oc] 27
  rw[<-hW] at D ⊢
  replace R:=R.below hb
  replace hL:=hL.below hb
  have hC:=Aa hI hb
  clear hW hb hI
  have c:=(Av D).1
  obtain⟨ok,hl⟩:∃ ok,Hid ((CV d).isSome=ok):=⟨_,rfl⟩
  obtain⟨m,hj⟩:∃ m,Hid ((CV d).elim 0 (·.1)=m):=⟨_,rfl⟩
  obtain⟨p,hp⟩:∃ p,Hid ((CV d).elim Ao (·.2)=p):=⟨_,rfl⟩
  have hE:A7 p:=by rw[<-hp.out];exact Sa d
  have qs:=fun u h=>IU (.agg #[.slice la ln lc,.slice sa sn sc,.slice oa on oc]) d u h hd (G9 d)
  have qi:=Ix (.agg #[.slice la ln lc,.slice sa sn sc,.slice oa on oc]) d W R hd (G9 d) (hG.below hC)
  simp only[hl.out,hj.out,hp.out] at qs qi
  go_wp2_with fail
  refine qi.mono ?_
  rintro e w3 ⟨⟨v3,rfl,M⟩,hg⟩
  have hM:=(M.mono (show 1<=W.heap.size by have:=D.lt;omega)).at
  obtain⟨ea,en,ec,va,vn,vc,ra,rn,rc,ta,tn,tc,rfl,-,-,-,hT,-⟩:=id hM
  have hQ:Hid (p.lt.length=tn):=hT.len
  clear M qi c hT
  go_upto_region 5 with fail
  obtain⟨W3,hv⟩:∃ W3,W3=w3.alloc (.cells #[.int .i64 p.size,.int .i64 p.next,.slice ea en ec,.slice va vn vc,.slice ra rn rc,.slice ta tn tc] 33):=⟨_,rfl⟩
  have hb:Below w3.heap.size w3 W3:=by rw[hv];go_grown
  have E:=Blk.new w3 #[.int .i64 p.size,.int .i64 p.next,.slice ea en ec,.slice va vn vc,.slice ra rn rc,.slice ta tn tc] 33
  rw[<-hv] at E ⊢
  replace hg:=Aa hg hb
  replace D:=D.below hg
  replace R:=R.below hg
  replace hL:=hL.below hg
  replace hM:=hM.below hb
  replace hC:=Aa hC hg
  clear hv hb hg
  have c:=(Av D).1
  go_wp2_with fail
  refine (qs W3 R).mono ?_
  rintro e w4 ⟨⟨v4,rfl,M⟩,ha⟩
  have hN:=(M.mono (show 1<=W3.heap.size by have:=D.lt;omega)).at
  obtain⟨xa,xn,xc,ya,yn,yc,za,zn,zc,ua,un,uc,rfl⟩:=hN.cells
  clear M qs c
  go_upto_region 6 with fail
  obtain⟨W4,hw⟩:∃ W4,W4=w4.alloc (.cells #[.int .i64 p.size,.int .i64 p.next,.slice xa xn xc,.slice ya yn yc,.slice za zn zc,.slice ua un uc] 33):=⟨_,rfl⟩
  have hb:Below w4.heap.size w4 W4:=by rw[hw];go_grown
  have F:=Blk.new w4 #[.int .i64 p.size,.int .i64 p.next,.slice xa xn xc,.slice ya yn yc,.slice za zn zc,.slice ua un uc] 33
  rw[<-hw] at F ⊢
  replace ha:=Aa ha hb
  replace D:=D.below ha
  replace E:=E.below ha
  replace R:=R.below ha
  replace hL:=hL.below ha
  replace hM:=hM.below ha
  replace hN:=hN.below hb
  replace hC:=Aa hC ha
  clear hw hb ha
  have hY:(m != m)=false:=sK
  have h0:(ok != ok)=false:=sK
  replace hL:=hL.sl
  have hV:ln<=4000000:=by rw[<-hL.len];exact hd.live.1
  replace D:=Nj D
  replace E:=k6 E
  replace F:=k6 F
  go_wp2_with fail
  refine (Gr 1 1 sJ sJ _ _ p W4 hM hN hE).mono ?_
  rintro e w5 ⟨rfl,he⟩
  replace D:=Nj (D.1.below he)
  replace E:=k6 (E.1.below he)
  replace F:=k6 (F.1.below he)
  replace hL:=hL.below he
  replace hM:=hM.below he
  replace hN:=hN.below he
  replace hC:=Aa hC he
  clear he R
  cases ok
  focus
   go_wp2_with fail
   refine (Gr 1 1 sJ sJ _ _ p w5 hM hN hE).mono ?_
   rintro e w6 ⟨rfl,hh⟩
   go_wp2
   go_returns
   exact⟨rfl,Aa hC hh⟩
  clear F hN hY h0
  have hq:CV d=some (m,p):=by
   cases hc:CV d with
   |none=>rw[hc] at hl;cases hl.out
   |some z=>rw[hc] at hj hp;rw[<-hj.out,<-hp.out];rfl
  obtain⟨hB,h5,hX⟩:=Pw hq
  have ht:Hid (∀ (i:Nat) (f:Fl) (q:Int×Po),d.live[i]?=some f->rsO f.d=some q->f.nm.toList=(slN (q.1 % 3).toNat).toList->q.1<=m):=fun i f q h1 h2 h3=>U6 hq hB h1 h2 h3
  have hs:Hid (∀ (i:Nat) (f:Fl),d.live[i]?=some f->f.d.size<=2000000):=fun i f h1=>PY hB h1
  clear hq hl hj hp hB
  go_wp2_with fail
  go_loopw [10] (fun iv wr=>∃ i:Nat,iv=.int .i64 i∧i<=ln∧DV wr w2.heap.size la ln lc sa sn sc oa on oc∧K6 wr w3.heap.size 33 (.int .i64 p.size) (.int .i64 p.next) (.slice ea en ec) (.slice va vn vc) (.slice ra rn rc) (.slice ta tn tc)∧Dz wr la ln d.live∧AC 1 wr (.agg #[.int .i64 p.size,.int .i64 p.next,.slice ea en ec,.slice va vn vc,.slice ra rn rc,.slice ta tn tc]) p∧Below w1.heap.size w1 wr) (fun iv _=>ln-(intOf iv).toNat)
  case atStart=>exact⟨0,rfl,Zg _,D,E,hL,hM,hC⟩
  case round=>
   clear D E hL hM hC
   obtain⟨i,rfl,hi,D,E,hL,hM,hC⟩:=hrel
   rcases Nat.lt_or_ge i ln with hO | hO
   focus
    obtain⟨f,hf⟩:∃ f,d.live[i]?=some f:=⟨_,ZI (by rw[hL.len];exact hO)⟩
    obtain⟨fb,fo,rfl,hA⟩:=hL.cell i f hf
    have h1:=ht.out i f
    have h2:=hs.out i f hf
    obtain⟨fn,fd⟩:=f
    have c0:wr.cell? ⟨fb,fo+i*2,none⟩=some (.string fn):=hA 0 (.string fn) rfl
    have c1:=hA 1 (.string fd) rfl
    have i1:(i:Int)<ln:=sH
    have i0:(0:Int)<=i:=sH
    obtain⟨fi,hD⟩:∃ fi,Hid ((rsO fd).isSome=fi):=⟨_,rfl⟩
    obtain⟨k,hk⟩:∃ k,Hid ((rsO fd).elim 0 (·.1)=k):=⟨_,rfl⟩
    obtain⟨x,hx⟩:∃ x,Hid ((rsO fd).elim Ao (·.2)=x):=⟨_,rfl⟩
    have hU:0<=k:=by
     rw[<-hk.out]
     cases hr:rsO fd with
     |none=>exact YB _
     |some q=>exact MS hr
    go_wp2_with fail
    refine (FC fd wr h2 (hG.below hC)).mono ?_
    rintro e w6 ⟨⟨v6,rfl,M⟩,hh⟩
    have ho:=(M.mono (show 1<=wr.heap.size by have:=D.1.lt;omega)).at
    rw[hx.out] at ho
    rw[hk.out,hD.out]
    obtain⟨xa,xn,xc,ya,yn,yc,za,zn,zc,ua,un,uc,rfl⟩:=ho.cells
    clear M ho
    go_upto_region 12 with fail
    obtain⟨W6,hz⟩:∃ W6,W6=w6.alloc (.cells #[.int .i64 x.size,.int .i64 x.next,.slice xa xn xc,.slice ya yn yc,.slice za zn zc,.slice ua un uc] 33):=⟨_,rfl⟩
    have hb:Below w6.heap.size w6 W6:=by rw[hz];go_grown
    rw[<-hz]
    replace hb:=Aa hh hb
    replace D:=Nj (D.1.below hb)
    replace E:=k6 (E.1.below hb)
    replace hL:=hL.below hb
    replace hM:=hM.below hb
    replace hC:=Aa hC hb
    replace c0:=Ab hb c0
    clear hz hb hh c1
    have hZ:max 0 k=k:=sH
    have hP:k.tmod 3=k % 3:=Int.tmod_eq_emod_of_nonneg hU
    obtain⟨r,hr⟩:∃ r,Hid (k % 3=r):=⟨_,rfl⟩
    rw[hr.out] at hP
    refine EZ (fun u=>u.cell? ⟨w2.heap.size,0,none⟩=some (.slice (some ⟨fb,fo,none⟩) ln lc)∧u.cell? ⟨fb,fo+i*2,none⟩=some (.string fn)) 14 [80,81,82,83,84,85,86,87,88,89,90,91,92,14] (fun x u=>x 14=.bool (fn.toList==(slN r.toNat).toList)∧Below W6.heap.size W6 u) sI rfl ?_ ?_
    focus
     have hS:W6.drew.cell? ⟨w2.heap.size,0,none⟩=some (.slice (some ⟨fb,fo,none⟩) ln lc)∧W6.drew.cell? ⟨fb,fo+i*2,none⟩=some (.string fn):=⟨D.2.1,c0⟩
     have hJ:Below W6.heap.size W6 W6.drew:=(Yg _ _).drew
     generalize W6.drew=w7 at *
     rcases (show r=0∨r=1∨r=2 by have:=hr.out;omega) with rfl | rfl | rfl
     all_goals
      refine tkc 0 ?_
      refine tkc 1 ?_
      refine tkc 2 ?_
      refine tkc 3 ?_
      refine tkc 4 ?_
      refine tkc 5 ?_
      refine tkc 7 ?_
      refine tkc (v:=.int .i64 k) 8 ?_ (hy:=fun u hu=>by go_simp)
      refine tkc 9 ?_ (hy:=fun u hu=>by go_simp;rfl)
      refine Ag (i:=6) sI rfl (fun K hK=>?_)
      go_simp
      refine hK.out _ _ ⟨Aj _ hS.1,Aj _ hS.2⟩ (fun hHeld=>?_)
      clear hK K
      try simp only[Act.put,Yj,Yq,Yr]
      refine tkc 10 ?_
      refine Ag (i:=11) sI rfl (fun K hK=>?_)
      go_simp
      refine hK.out _ _ hHeld (fun hHeld=>?_)
      clear hK K
      try simp only[Act.put,Yj,Yq,Yr]
      refine tkc 12 ?_
      refine tkc 13 ?_
      refine wpAnyH_done sI ?_ _
      exact F7 om ⟨by (simp only[Act.eval,Array.getD_eq_getD_getElem?,Yp,Yo,Yt,Yw];rw[Zu (slN _)];rfl),hJ.alloc hJ.size _⟩
    rintro x u ⟨hH,hb⟩
    simp only[AY,YE,List.foldl_nil]
    try simp only[Act.put,Yj,Yq,Yr]
    rw[hH]
    replace hC:=Aa hC hb
    replace D:=Nj (D.1.below hb)
    replace E:=k6 (E.1.below hb)
    replace hL:=hL.below hb
    replace hM:=hM.below hb
    obtain⟨sl,hF⟩:∃ sl,Hid ((fn.toList==(slN r.toNat).toList)=sl):=⟨_,rfl⟩
    rw[hF.out]
    have hR:fi=false∨fi=true∧sl=false∨fi=true∧sl=true∧k<=m:=by
     cases fi
     ·exact .inl rfl
     cases sl
     ·exact .inr (.inl ⟨rfl,rfl⟩)
     refine .inr (.inr ⟨rfl,rfl,?_⟩)
     have h3:=hD.out
     have h4:=hk.out
     cases hq:rsO fd with
     |none=>rw[hq] at h3;cases h3
     |some q=>
      rw[hq] at h4
      obtain rfl:q.1=k:=h4
      exact h1 q hf hq (by rw[hr.out];exact eq_of_beq hF.out)
    clear hD hk hx hF h1 h2 hf hH hr hP hZ hb c0 hA
    rcases hR with rfl | ⟨rfl,rfl⟩ | ⟨rfl,rfl,h6⟩
    all_goals
     go_wp2
     go_roundw
     case rel=>exact⟨i+1,sQ,sH,D,E,hL,hM,hC⟩
     case measure=>simp[intOf];omega
   obtain rfl:i=ln:=sH
   obtain rfl:tn=0:=by rw[<-hQ.out,hX];rfl
   clear hQ
   go_wp2_with fail
   refine (ch_ 1 _ p wr hM hE).mono ?_
   rintro e w6 ⟨rfl,hh⟩
   replace E:=k6 (E.1.below hh)
   rw[h5]
   go_wp2
   go_returns
   exact⟨rfl,Aa hC hh⟩
 have hb:decide (1048576<n)=true:=sN;go_enter func3,ntmps3;go_wp2_with fail;refine (JO a n cap _ hm).mono ?_;rintro e w1 ⟨rfl,rfl⟩;rw[hb];go_wp2;go_returns;exact⟨rfl,Yg _ _⟩
end
section
open Go Tryz
theorem fu{p:Prop}(h:p:=by have:=jV c2 hd;exact⟨by omega,by omega⟩):p:=h
end
section
open Go Go.RowKit Go.BigFrame Tryz
theorem rO{p:Prop}(h:p:=by rw[ZI (by simpa using hlt)];rfl):p:=h
end
section
open Go Tryz
theorem oe{p:Prop}(h:p:=by rw[jH _ _ _ (by decide)];decide):p:=h
end
section
open Go Go.RowKit Go.BigFrame Tryz
theorem Ac.wr {α:Type}{cs:α->List Value}{sz:Nat}{t:TypeId}{w:World}{B n cap:Nat}{a:Option Addr}{l:List α}(h:Ac cs sz t w B a n cap l):Ey cs sz t w B a n cap l:=by
 refine ⟨h.sl,?_⟩;rcases h.own with h0 | ⟨b,ha,hB,h1,_,c,hc,h2,_⟩
 ·exact .inl h0
 ·exact .inr ⟨b,c,ha,hB,hc,by rw[h2];exact ZS _ h1⟩
theorem sR{p:Prop}(h:p:=by obtain⟨y0,y1,y2,e0,e1,e2,e3⟩:=jY (by simpa using h);exact⟨y0,y1,y2,by simpa using e0,e1.below hb,e2.below hb,e3.below hb⟩):p:=h
theorem sZ{p:Prop}(h:p:=by simpa using (g7 (by simpa using h)).below hb):p:=h
theorem s6{p:Prop}(h:p:=by simpa using (g4 (by simpa using h)).below hb):p:=h
theorem re{p:Prop}(h:p:=by simpa using (g3 (by simpa using h)).below hb):p:=h
theorem rg{p:Prop}(h:p:=by simpa using (g0 (by simpa using h)).below hb):p:=h
theorem rp{p:Prop}(h:p:=by simpa using (jZ (by simpa using h)).below hb):p:=h
theorem rq{p:Prop}(h:p:=by simpa using (g8 (by simpa using h)).below hb):p:=h
theorem ry{p:Prop}(h:p:=by simpa using jg (by have:=hB.size;omega)):p:=h
theorem rX{p:Prop}(h:p:=by rw[hA.eval (by decide)];rfl):p:=h
theorem rC{p:Prop}(h:p:=by rw[qx];exact Blk.new' _ _ _ _ (by simp)):p:=h
theorem dU{p:Prop}(h:p:=by rw[qx];exact (Blk.new' _ _ _ _ (by simp)).alloc _):p:=h
theorem rh{p:Prop}(h:p:=by obtain⟨y0,y1,e0,e1,e2⟩:=g8 (by simpa using h);exact⟨y0,y1,by simpa using e0,e1.below hb,e2.below hb⟩):p:=h
end
section
open Go Go.RowKit Go.BigFrame Go.Shelf Tryz
theorem dR{p:Prop}(h:p:=by rw[<-j0.out];exact kK (by omega) (by omega)):p:=h
end
section
open Go Go.RowKit Go.BigFrame Tryz
theorem A5.t {B0:Nat}{w:World}{v:Value}{d:Dk}(h:A5 B0 w v d):GJ B0 w v d:=by
 obtain⟨la,ln,lc,sa,sn,sc,oa,on,oc,hv,h1,h2,h3⟩:=h;exact⟨la,ln,lc,sa,sn,sc,oa,on,oc,hv,h1.slH,h2.slH,h3.slH,fun ad e=>(h1.block ad e).1,fun ad e=>(h2.block ad e).1,fun ad e=>(h3.block ad e).1⟩
theorem rF{p:Prop}(h:p:=by rw[hW];exact Blk.new' _ _ _ _ (by simp)):p:=h
theorem dX{p:Prop}(h:p:=by rw[hW];exact (Blk.new' _ _ _ _ (by simp)).alloc _):p:=h
end
end Go.Proofs.YteejlahappbalaaGreatDoor
