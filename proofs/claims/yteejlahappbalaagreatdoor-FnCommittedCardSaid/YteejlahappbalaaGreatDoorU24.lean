/- Texts of pools, read and written; what is drawn. -/
import Derived.Test.YteejlahappbalaaGreatDoorU14
import Derived.Test.YteejlahappbalaaGreatDoorU23
set_option maxHeartbeats 20000000
set_option maxRecDepth 100000
namespace Go.Proofs.YteejlahappbalaaGreatDoor
section
open Go Go.RowKit Go.BigFrame Tryz
theorem HE (v:Value)(d:Dk)(w:World)(h:Bv w v d)(hd:Dg d) :
  Calls prog 35 #[v] w fun e w'=>(∃ v',e=.returned v'∧A5 (w.heap.size+1) w' v' (Fh d))∧Below w.heap.size w w':=by
 have hD:=h;obtain⟨la,ln,lc,sa,sn,sc,oa,on,oc,rfl,hL,hS,hO⟩:=h;have hw:ln<=4000000:=by rw[<-hL.sl.len];exact hd.live.1
 obtain⟨W0,qx⟩:∃ W0,W0=(w.alloc (.cells #[.slice la ln lc,.slice sa sn sc,.slice oa on oc] 27)).alloc (.cells #[.slice none 0 0,.slice none 0 0,.slice none 0 0] 27):=⟨_,rfl⟩;have hh:Below w.heap.size w W0:=o8;have C:Blk W0 w.heap.size #[.slice la ln lc,.slice sa sn sc,.slice oa on oc] 27:=oP;have E:Blk W0 (w.heap.size+1) #[.slice none 0 0,.slice none 0 0,.slice none 0 0] 27:=by rw[qx];exact Blk.new' _ _ _ _ sK
 have hf:Hid (W0.heap.size=w.heap.size+2):=o9;go_enter func35,ntmps35;go_wp2_with fail;rw[<-qx];clear qx;refine (Dt _ d W0 (hD.below hh) hd).mono ?_;rintro e W ⟨rfl,hc⟩;replace C:=C.below hc;replace E:=E.below hc;have hx:w.heap.size+2<=W.heap.size:=by have:=hc.size;have:=hf.out;omega
 replace hc:=Aa hh hc;clear hh hf
 cases hp:Az d
 ·have hr:Hid (Fh d=noD):=Rj hp;obtain⟨⟨z0,z1,z2⟩,f0,f1,f2⟩:=Av E;have NR:=G7 (w.heap.size+2) W;go_wp2;have E8:=E.put3 (x:=.slice none 0 0) (y:=.slice none 0 0) (z:=.slice none 0 0);have hg:=AW W (w.heap.size+1) (.slice none 0 0) (.slice none 0 0) (.slice none 0 0);have zJ:=NR.off hg sH;have qB:=ao_ hc hg sH;generalize ((W.setCell ⟨w.heap.size+1,0,none⟩ (.slice none 0 0)).setCell ⟨w.heap.size+1,1,none⟩ (.slice none 0 0)).setCell ⟨w.heap.size+1,2,none⟩ (.slice none 0 0)=W8 at *;exact mR
 ·have hr:Hid (Fh d=⟨d.live,d.live,[]⟩):=J2 hp;have he:=hL.below hc;obtain⟨c0,c1,c2⟩:=C.three;generalize d.live=live at *;have hj:∀ u,Below W.heap.size W u->(fun u=>u.cell? ⟨w.heap.size,0,none⟩=some (.slice la ln lc)) u:=fun u hu=>Ab hu c0;have ho:Below W.heap.size W W.drew:=(Yg _ _).drew;go_wp2_with fail;have hs:(fun u=>u.cell? ⟨w.heap.size,0,none⟩=some (.slice la ln lc)) W.drew:=hj _ ho;refine ar_ (S:=(fun u=>u.cell? ⟨w.heap.size,0,none⟩=some (.slice la ln lc))) 9 sI sI ?_;refine tk 1 ?_;refine tk 2 ?_;refine tk 5 ?_;refine tk 6 ?_;refine Hg W [7,10,11,14,15] [0,3,4,7,8] (fun i=>[7,0,0,10,11,0,0,14,15].getD i 0) (fun b x u=>(b 0=true->Kb (w.heap.size+2) 39 u (x 7))∧(b 3=true->GK Fl.cs 2 39 (w.heap.size+2) ln live u (x 10))∧(b 4=true->Kb (w.heap.size+2) 39 u (x 11))∧(b 7=true->GK Fl.cs 2 39 (w.heap.size+2) ln live u (x 14))∧(b 8=true->∃ y0 y1,x 15=.agg #[y0,y1,.slice none 0 0]∧GK Fl.cs 2 39 (w.heap.size+2) ln live u y0∧GK Fl.cs 2 39 (w.heap.size+2) ln live u y1)) sI sI sI sI (Zm sI) hj ho ?init ?step ?done
  case init=>exact⟨(fun h=>by cases h),(fun h=>by cases h),(fun h=>by cases h),(fun h=>by cases h),(fun h=>by cases h)⟩
  case step=>
   intro i hi b a u hA hB hG ht ha;obtain⟨g0,g3,g4,g7,g8⟩:=hG;simp only[Zn,List.not_mem_nil,or_false] at hi;rcases hi with rfl | rfl | rfl | rfl | rfl
   ·refine cL_ rfl rfl (fun K hK=>?_);have hb:Below u.heap.size u (u.alloc (.cells #[] 39)):=(Yg _ _).alloc (Zd _) _;go_simp;exact hK.out _ _ ⟨_,rfl,hb,⟨(fun _=>(by simpa using FF rA)),(fun h=>(by simpa using (g3 sP).below hb)),(fun h=>(by simpa using (g4 sP).below hb)),(fun h=>(by simpa using (g7 sP).below hb)),(fun h=>(by obtain⟨y0,y1,e0,e1,e2⟩:=g8 sP;exact⟨y0,y1,rM,e1.below hb,e2.below hb⟩))⟩⟩
   ·obtain⟨lb,e1,L1,l2⟩:=g0 (ha _ rfl ⟨0,.data⟩ sK rfl);refine cL_ rfl rfl (fun K hK=>?_);obtain⟨i0,hl,hf,hm,hn⟩:=info_parts IB;refine eQ_ (.tmp 7) (.tmp 9) 24 rfl ((w.heap.size+2)) 39 i0 _ 32 underlying24 hl hf hm hn rfl sJ Fy Fz lb e1 L1 l2 la ln lc live (by rw[hA.eval sJ];rfl) (he.sl.below hB) he.spot he.nil sO sH rA (fun a3 c3 u3 R3 hb _ _=>?_);exact hK.out _ _ ⟨_,rfl,hb,⟨(fun h=>(by simpa using (g0 sP).below hb)),(fun _=>oy),(fun h=>(by simpa using (g4 sP).below hb)),(fun h=>(by simpa using (g7 sP).below hb)),(fun h=>(by obtain⟨y0,y1,e0,e1,e2⟩:=g8 sP;exact⟨y0,y1,rM,e1.below hb,e2.below hb⟩))⟩⟩
   ·refine cL_ rfl rfl (fun K hK=>?_);have hb:Below u.heap.size u (u.alloc (.cells #[] 39)):=(Yg _ _).alloc (Zd _) _;go_simp;exact hK.out _ _ ⟨_,rfl,hb,⟨(fun h=>(by simpa using (g0 sP).below hb)),(fun h=>(by simpa using (g3 sP).below hb)),(fun _=>(by simpa using FF rA)),(fun h=>(by simpa using (g7 sP).below hb)),(fun h=>(by obtain⟨y0,y1,e0,e1,e2⟩:=g8 sP;exact⟨y0,y1,rM,e1.below hb,e2.below hb⟩))⟩⟩
   ·obtain⟨lb,e1,L1,l2⟩:=g4 (ha _ rfl ⟨4,.data⟩ sK rfl);refine cL_ rfl rfl (fun K hK=>?_);obtain⟨i0,hl,hf,hm,hn⟩:=info_parts IB;refine eQ_ (.tmp 11) (.tmp 13) 24 rfl ((w.heap.size+2)) 39 i0 _ 32 underlying24 hl hf hm hn rfl sJ Fy Fz lb e1 L1 l2 la ln lc live (by rw[hA.eval sJ];rfl) (he.sl.below hB) he.spot he.nil sO sH rA (fun a3 c3 u3 R3 hb _ _=>?_);exact hK.out _ _ ⟨_,rfl,hb,⟨(fun h=>(by simpa using (g0 sP).below hb)),(fun h=>(by simpa using (g3 sP).below hb)),(fun h=>(by simpa using (g4 sP).below hb)),(fun _=>oy),(fun h=>(by obtain⟨y0,y1,e0,e1,e2⟩:=g8 sP;exact⟨y0,y1,rM,e1.below hb,e2.below hb⟩))⟩⟩
   ·refine cL_ rfl rfl (fun K hK=>?_);have r0:=g3 (ha _ rfl ⟨3,.data⟩ sK rfl);have r1:=g7 (ha _ rfl ⟨7,.data⟩ sK rfl);have hb:Below u.heap.size u u:=Yg _ _;have hv:∀ k,a.eval (.tmp k)=a.tmps.getD k undef:=fun _=>rfl;obtain⟨ya0,yc0,ey0,ry0⟩:=r0;have ez0:a.tmps[10]?.getD undef=.slice ya0 ln yc0:=by simpa [Act.eval] using ey0
    obtain⟨ya1,yc1,ey1,ry1⟩:=r1;have ez1:a.tmps[14]?.getD undef=.slice ya1 ln yc1:=by simpa [Act.eval] using ey1
    go_simp;refine hK.out _ _ ⟨_,rfl,hb,⟨(fun h=>(by simpa using (g0 sP).below hb)),(fun h=>(by simpa using (g3 sP).below hb)),(fun h=>(by simpa using (g4 sP).below hb)),(fun h=>(by simpa using (g7 sP).below hb)),(fun _=>⟨_,_,rfl,Gb ry0,Gb ry1⟩)⟩⟩
  case done=>
   rintro b x u hB ⟨_,_,_,_,g8⟩ hk;obtain⟨y0,y1,e0,⟨a0,k0,rfl,R0⟩,⟨a1,k1,rfl,R1⟩⟩:=g8 (hk 8 sK);refine lastL rfl ?_;simp only[AY,YE,List.foldl_nil,e0];(try simp only[Act.put,Yj,Yq,Yr]);have E1:=E.below hB;have hq:=Aa hc hB;obtain⟨⟨z0,z1,z2⟩,f0,f1,f2⟩:=Av E1;clear C c0 c1 c2 hj hs;have DR:A5 (w.heap.size+2) u (.agg #[.slice a0 ln k0,.slice a1 ln k1,.slice none 0 0]) ⟨live,live,[]⟩:=⟨_,_,_,_,_,_,_,_,_,rfl,R0,R1,aB_⟩;go_wp2;have E8:=E1.put3 (x:=.slice a0 ln k0) (y:=.slice a1 ln k1) (z:=.slice none 0 0);have hg:=AW u (w.heap.size+1) (.slice a0 ln k0) (.slice a1 ln k1) (.slice none 0 0);have zJ:=DR.off hg sH;have qB:=ao_ hq hg sH;generalize ((u.setCell ⟨w.heap.size+1,0,none⟩ (.slice a0 ln k0)).setCell ⟨w.heap.size+1,1,none⟩ (.slice a1 ln k1)).setCell ⟨w.heap.size+1,2,none⟩ (.slice none 0 0)=W8 at *;exact mR
def Ep (w:World)(b:Nat)(x0 x1 x2 x3 x4 x5 x6 x7 x8 x9:Value):World:=(((((((((w.setCell ⟨b,0,none⟩ x0).setCell ⟨b,1,none⟩ x1).setCell ⟨b,2,none⟩ x2).setCell ⟨b,3,none⟩ x3).setCell ⟨b,4,none⟩ x4).setCell ⟨b,5,none⟩ x5).setCell ⟨b,6,none⟩ x6).setCell ⟨b,7,none⟩ x7).setCell ⟨b,8,none⟩ x8).setCell ⟨b,9,none⟩ x9
theorem CU {w:World}{b:Nat}{c0 c1 c2 c3 c4 c5 c6 c7 c8 c9:Value}{t:TypeId}(h:Blk w b #[c0,c1,c2,c3,c4,c5,c6,c7,c8,c9] t)(x0 x1 x2 x3 x4 x5 x6 x7 x8 x9:Value):Blk (Ep w b x0 x1 x2 x3 x4 x5 x6 x7 x8 x9) b #[x0,x1,x2,x3,x4,x5,x6,x7,x8,x9] t:=by
 unfold Ep;have:=(((((((((h.set 0 x0).set 1 x1).set 2 x2).set 3 x3).set 4 x4).set 5 x5).set 6 x6).set 7 x7).set 8 x8).set 9 x9;simpa using this
theorem B2 (w:World)(b:Nat)(x0 x1 x2 x3 x4 x5 x6 x7 x8 x9:Value):w.grownBy (Ep w b x0 x1 x2 x3 x4 x5 x6 x7 x8 x9) (some b):=af_ (af_ (af_ (af_ (af_ (af_ (af_ (af_ (af_ (af_ (Yh _ _) _ _) _ _) _ _) _ _) _ _) _ _) _ _) _ _) _ _) _ _
theorem Mr {a b:ByteArray}(h:a.toList=b.toList):a=b:=by
 rw[Zu,Zu] at h;exact ByteArray.ext (Array.toList_inj.1 h)
theorem So {p q:Fl}(h:Is p q=true):p=q:=by
 simp only[Is,Zf,beq_iff_eq] at h;obtain⟨a,b⟩:=p;obtain⟨c,e⟩:=q;simp only at h;rw[Mr h.1,Mr h.2]
theorem Ln:∀ {l m:List Fl},BV l m=true->l=m
 |[],[],_=>rfl
 |[],_::_,h=>by simp[BV] at h
 |_::_,[],h=>by simp[BV] at h
 |p::l,q::m,h=>by
  simp only[BV,Zf] at h
  rw[So h.1,Ln h.2]
theorem JE {d:Dk}(h:Az d=true):runF d.safe d.ops=some d.live:=by
 simp only[Az,Zf] at h;have h2:=h.2
 cases hq:runF d.safe d.ops with
 |none=>rw[hq] at h2;cases h2
 |some l=>rw[hq] at h2;rw[Ln h2]
def s0N:ByteArray:=⟨#[115,48]⟩
end
section
open Go.RowKit Go.BigFrame Tryz
theorem pD{p:Prop}(h:p:=by
 cases row with
 |some r=>exact h.grown hg (hr r rfl)
 |none=>exact h.grown (r:=B+1) (hg.but (some (B+1))) sH):p:=h
theorem Rd.grownO {w w':World}{B:Nat}{row:Option Nat}(h:Rd w B)(hg:w.grownBy w' row)(hr:∀ k,row=some k->B<k):Rd w' B:=by
 exact pD
end
section
open Go.RowKit Tryz
theorem Ac.grownO {α:Type}{cs:α->List Value}{sz:Nat}{t:TypeId}{w w':World}{B n cap:Nat}{a:Option Addr}{l:List α}{row:Option Nat}(h:Ac cs sz t w B a n cap l)(hg:w.grownBy w' row)(hr:∀ ad,a=some ad->some ad.block≠row):Ac cs sz t w' B a n cap l:=by
 refine ⟨kb_ h.sl hg hr,?_⟩;rcases h.own with h0 | ⟨b,ha,hB,h1,h2,c,hc,q⟩
 ·exact .inl h0
 ·refine .inr ⟨b,ha,hB,h1,h2,c,?_,q⟩;show w'.heap[b]?=_;rw[hg.block b hc.lt (hr _ ha)];exact hc
end
section
open Go.RowKit Go.BigFrame Tryz
theorem Sf.grownO {B:Nat}{w w':World}{a:Option Addr}{row:Option Nat}(h:Sf B w a)(hg:w.grownBy w' row)(hr:∀ ad,a=some ad->some ad.block≠row):Sf B w' a:=fun h0 ad e=>by
 obtain⟨h1,c,t,h2⟩:=h h0 ad e
 exact⟨h1,c,t,(hg.block _ h2.lt (hr ad e)).trans h2⟩
theorem KU.grownO {B:Nat}{w w':World}{r:IR}{y:It}{row:Option Nat}(h:KU B w r y)(hg:w.grownBy w' row)(hr:∀ ad,r.pa=some ad->some ad.block≠row):KU B w' r y:=
 ⟨h.nm,kb_ h.ps hg hr,h.hd,h.ge,fun ad e=>Zy (h.lt ad e) hg.size,h.sf.grownO hg hr⟩
theorem Em.grownO {B:Nat}{w w':World}{rows:List IR}{l:List It}{row:Option Nat}(h:Em B w rows l)(hg:w.grownBy w' row)(hr:∀ r∈rows,∀ ad,r.pa=some ad->some ad.block≠row):Em B w' rows l:=⟨h.len,fun i r y h1 h2=>(h.at' i r y h1 h2).grownO hg (hr r (Zc h1))⟩
end
section
open Go Go.RowKit Go.BigFrame Tryz
theorem Blk.grownO {w w':World}{b:Nat}{c:Array Value}{t:TypeId}{row:Option Nat}(h:Blk w b c t)(hg:w.grownBy w' row)(hr:some b≠row):Blk w' b c t:=by
 unfold Blk;rw[hg.block b h.lt hr];exact h
theorem k13 {u:World}{b:Nat}{k:Int}{o:Opr}{pw:Int}{ka:Option Addr}{kn kc:Nat}{t:Int}(h:Blk u b (Gi k o pw ka kn kc t) 83):K13 u b k o pw ka kn kc t:=⟨h,h.cell 0,h.cell 1,h.cell 2,h.cell 3,h.cell 4,h.cell 5,h.cell 6,h.cell 7,h.cell 8,h.cell 9,h.cell 10,h.cell 11,h.cell 12,h.frozen 0,h.frozen 1,h.frozen 2,h.frozen 3,h.frozen 4,h.frozen 5,h.frozen 6,h.frozen 7,h.frozen 8,h.frozen 9,h.frozen 10,h.frozen 11,h.frozen 12⟩
def rdL (l:List Fl)(nm:ByteArray):ByteArray×Bool:=match atF l nm with | none=>(⟨#[]⟩,false) | some i=>match l[i]? with | some f=>(f.d,true) | none=>(⟨#[]⟩,false)
def rdD (d:Dk)(nm:ByteArray):ByteArray×Bool:=if Az d=true then rdL d.live nm else (⟨#[]⟩,false)
theorem MQ {d:Dk}(nm:ByteArray)(h:Az d=false):rdD d nm=(⟨#[]⟩,false):=by simp[rdD,h]
theorem Ic {d:Dk}(nm:ByteArray)(h:Az d=true):rdD d nm=rdL d.live nm:=by simp[rdD,h]
theorem Mq {l:List Fl}{nm:ByteArray}{i:Nat}(h:atF l nm=some i):∃ f,l[i]?=some f∧f.nm.toList=nm.toList:=by
 unfold atF at h;obtain⟨h1,h2,_⟩:=ZA.1 h;exact⟨l[i],by simp[h1],dq⟩
def slN:Nat->ByteArray
 |0=>⟨#[115,48]⟩
 |1=>⟨#[115,49]⟩
 |_=>⟨#[115,50]⟩
noncomputable def rcO (d:Dk) (i:Nat):Option (Int×Po):=if (rdD d (slN i)).2=true then rsO (rdD d (slN i)).1 else none
def CN (a:Int×Po)(i:Nat)(r:Option (Int×Po)):Int×Po:=match r with
 |none=>a
 |some q=>if q.1 % 3=i∧a.1<q.1 then q else a
noncomputable def Bp (d:Dk):Nat->Int×Po
 |0=>(-1,Ao)
 |i+1=>CN (Bp d i) i (rcO d i)
noncomputable def CV (d:Dk):Option (Int×Po):=if (Bp d 3).1<0 then none else some (Bp d 3)
theorem pj{p:Prop}(h:p:=by
 rw[HH hc] at hs;rw[<-hs] at hb
 exact absurd hb.1 sJ):p:=h
theorem MS {s:ByteArray}{q:Int×Po}(h:rsO s=some q):0<=q.1:=by
 unfold rsO at h;split at h
 ·next hb=>
  cases hn:numP (hdB (El s.data.toList)) with
  |none=>rw[hn] at h;cases h
  |some n=>
   rw[hn] at h
   cases ha:Dh (tlB (El s.data.toList)) with
   |none=>rw[ha] at h;cases h
   |some p=>
    rw[ha] at h;simp only[YO] at h;split at h
    ·next hs=>
     obtain rfl:=Zi h;show 0<=n;by_cases hc:(0<=n∧n<=1000000000)∧Ai p=true∧p.lt=[]
     ·exact hc.1.1
     ·exact pj
    ·cases h
 ·cases h
theorem lB{p:Prop}(h:p:=by
 go_wp2;go_roundw
 case rel=>exact⟨i+1,b,p0,ea0,en0,ec0,va0,vn0,vc0,ra0,rn0,rc0,la0,ln0,lc0,sQ,rfl,sH,qS.out,DB,QB,PB,M0,hB⟩
 case measure=>simp[intOf];omega):p:=h
theorem mQ{p:Prop}(h:p:=by
 cases hr:rsO D with
 |none=>rw[hr] at h1;subst h1;simp[CN]
 |some q=>
  obtain⟨qn,qp⟩:=q;rw[hr] at h1 h2 h3;subst h1;obtain rfl:qn=n1:=h2;obtain rfl:qp=p1:=h3
  simp[CN]):p:=h
theorem mU{p:Prop}(h:p:=by
 go_roundw
 case rel=>exact⟨i+1,n1,p1,ea1,en1,ec1,va1,vn1,vc1,ra1,rn1,rc1,la1,ln1,lc1,sQ,rfl,sH,qS.out,DB,QB,P8,M8,hB⟩
 case measure=>simp[intOf];omega):p:=h
theorem pJ{p:Prop}(h:p:=by
 rw[<-qE.out];have h1:=zj.out
 cases hr:rsO D with
 |none=>rw[hr,ho] at h1;cases h1
 |some q=>exact MS hr):p:=h
theorem oU{p:Prop}(h:p:=by rw[beq_iff_eq];exact hm):p:=h
theorem MR {P:Program}{fn:Func}{p q:Tmp}{ty:TypeId}(h:fn.results=#[.tmp q,.cell p ty])(tmps:Array Value)(w:World)(g:Nat)(t:TypeId)(cs:Array Value)(fr:Nat×Nat)(d:TypeDesc)(v:Value)
  (hp:tmps.getD p undef=.pointer (some ⟨g,0,none⟩)) (hq:tmps.getD q undef=v) (hg:w.heap[g]?=some (.cells cs t fr))
  (hu:P.underlying ty=some d) (hd:(match d with | .struct _ | .array _ _=>true | _=>false)=true) (hi:(P.info? ty).map (·.size)=some cs.size) :
  (results fn tmps).run P w=.ok (.tuple #[v,.agg cs]) w:=by
 exact me
theorem KE (i:Nat)(hi:i<3)(w:World) :
  Calls prog 43 #[.int .i64 ((i:Nat):Int)] w fun e w'=>e=.returned (.string (slN i))∧Below w.heap.size w w':=by
 match i,hi with
 |0,_=>
  go_enter func43,ntmps43;go_wp2;exact mM
 |1,_=>
  go_enter func43,ntmps43;go_wp2;exact mM
 |2,_=>
  go_enter func43,ntmps43;go_wp2;exact mM
theorem FS (v:Value)(d:Dk)(w:World)(h:Bv w v d)(hd:Dg d)(hdb:Az d=true)(hz:∀ nm,(rdD d nm).1.size<=2000000)(hw:0<w.heap.size) :
  Calls prog 16 #[v] w fun e w'=>(∃ u,e=.returned (.tuple #[.int .i64 (Bp d 3).1,u])∧AK w.heap.size w' u (Bp d 3).2)∧Below w.heap.size w w':=by
 have hD:=h;obtain⟨la,ln,lc,sa,sn,sc,oa,on,oc,rfl,hg,_⟩:=h;have h0:ln<=4000000:=by rw[<-hg.sl.len];exact hd.live.1
 obtain⟨A,hA⟩:∃ A,Hid (Bp d 3=A):=⟨_,rfl⟩;rw[hA.out];have hv:Below w.heap.size w (((w.alloc (.cells #[.slice la ln lc,.slice sa sn sc,.slice oa on oc] 27)).alloc (.cells #[.int .i64 0,.int .i64 0,.slice none 0 0,.slice none 0 0,.slice none 0 0,.slice none 0 0] 33)).alloc (.cells #[.int .i64 0,.int .i64 0,.slice none 0 0,.slice none 0 0,.slice none 0 0,.slice none 0 0] 33)):=sM;have hq:Blk (((w.alloc (.cells #[.slice la ln lc,.slice sa sn sc,.slice oa on oc] 27)).alloc (.cells #[.int .i64 0,.int .i64 0,.slice none 0 0,.slice none 0 0,.slice none 0 0,.slice none 0 0] 33)).alloc (.cells #[.int .i64 0,.int .i64 0,.slice none 0 0,.slice none 0 0,.slice none 0 0,.slice none 0 0] 33)) w.heap.size #[.slice la ln lc,.slice sa sn sc,.slice oa on oc] 27:=(Blk.new w _ _).below sM;have ht:Blk (((w.alloc (.cells #[.slice la ln lc,.slice sa sn sc,.slice oa on oc] 27)).alloc (.cells #[.int .i64 0,.int .i64 0,.slice none 0 0,.slice none 0 0,.slice none 0 0,.slice none 0 0] 33)).alloc (.cells #[.int .i64 0,.int .i64 0,.slice none 0 0,.slice none 0 0,.slice none 0 0,.slice none 0 0] 33)) (w.heap.size+1) #[.int .i64 0,.int .i64 0,.slice none 0 0,.slice none 0 0,.slice none 0 0,.slice none 0 0] 33:=(Blk.new' (w.alloc (.cells #[.slice la ln lc,.slice sa sn sc,.slice oa on oc] 27)) _ _ _ sK).below sM;have hs:Blk (((w.alloc (.cells #[.slice la ln lc,.slice sa sn sc,.slice oa on oc] 27)).alloc (.cells #[.int .i64 0,.int .i64 0,.slice none 0 0,.slice none 0 0,.slice none 0 0,.slice none 0 0] 33)).alloc (.cells #[.int .i64 0,.int .i64 0,.slice none 0 0,.slice none 0 0,.slice none 0 0,.slice none 0 0] 33)) (w.heap.size+1+1) #[.int .i64 0,.int .i64 0,.slice none 0 0,.slice none 0 0,.slice none 0 0,.slice none 0 0] 33:=Blk.new' _ _ _ _ sK;go_enter func16,ntmps16;go_wp2_with fail;generalize ((w.alloc (.cells #[.slice la ln lc,.slice sa sn sc,.slice oa on oc] 27)).alloc (.cells #[.int .i64 0,.int .i64 0,.slice none 0 0,.slice none 0 0,.slice none 0 0,.slice none 0 0] 33)).alloc (.cells #[.int .i64 0,.int .i64 0,.slice none 0 0,.slice none 0 0,.slice none 0 0,.slice none 0 0] 33)=W0 at *;go_loopw [4,6] (fun bv ix wr=>∃ (i:Nat) (b:Int) (p0:Po) (ea0:Option Addr) (en0 ec0:Nat) (va0:Option Addr) (vn0 vc0:Nat) (ra0:Option Addr) (rn0 rc0:Nat) (la0:Option Addr) (ln0 lc0:Nat),ix=.int .i64 ((i:Nat):Int)∧bv=.int .i64 b∧i<=3∧Hid (Bp d i=(b,p0))∧Blk wr w.heap.size #[.slice la ln lc,.slice sa sn sc,.slice oa on oc] 27∧Blk wr (w.heap.size+1) #[.int .i64 0,.int .i64 0,.slice none 0 0,.slice none 0 0,.slice none 0 0,.slice none 0 0] 33∧Blk wr (w.heap.size+1+1) #[.int .i64 p0.size,.int .i64 p0.next,.slice ea0 en0 ec0,.slice va0 vn0 vc0,.slice ra0 rn0 rc0,.slice la0 ln0 lc0] 33∧AK (w.heap.size+3) wr (.agg #[.int .i64 p0.size,.int .i64 p0.next,.slice ea0 en0 ec0,.slice va0 vn0 vc0,.slice ra0 rn0 rc0,.slice la0 ln0 lc0]) p0∧Below w.heap.size w wr) (fun _ ix _=>3-(intOf ix).toNat)
 case atStart=>exact⟨0,-1,Ao,none,0,0,none,0,0,none,0,0,none,0,0,rfl,rfl,sH,rfl,hq,ht,hs,Dx _ _,hv⟩
 case round=>
  clear hq ht hs hv;obtain⟨i,b,p0,ea0,en0,ec0,va0,vn0,vc0,ra0,rn0,rc0,la0,ln0,lc0,rfl,rfl,hi,hI,DB,QB,PB,M0,hB⟩:=hrel;have h6:=PB.lt;rcases Nat.lt_or_ge i 3 with hP | hV
  ·have hW:(i:Int)<3:=sH;have hX:(0:Int)<=i:=sH;obtain⟨pl,hh⟩:∃ z,Hid (atF d.live (slN i)=z):=⟨_,rfl⟩;have qs:=fun (u:World) (hu:Below wr.heap.size wr u)=>KE i hP u;have qf:=fun (u:World) (hu:Below wr.heap.size wr u)=>(C8 la ln lc d.live (slN i) u (hg.sl.below (Aa hB hu)) sH).mono fun e w' ⟨h1,h2⟩=>(⟨h1,by rw[h2];exact Yg _ _⟩:e=Ending.returned (.int .i64 (plF (atF d.live (slN i))))∧Below u.heap.size u w');rw[hh.out] at qf;obtain⟨at',hk⟩:∃ z,Hid (plF pl=z):=⟨_,rfl⟩;rw[hk.out] at qf;obtain⟨sl,hT⟩:∃ z,slN i=z:=⟨_,rfl⟩;have hG:Hid (rdD d (slN i)=rdL d.live (slN i)):=Ic _ hdb;rw[hT] at qs qf;have c0:=DB.cell 0;go_upto_region 6 with fail;have g0:=Ad c0;have hR:=aA_ wr;refine ab_ sI sI ?_;repeat (go_big_quiet_step (first | (go_at_call 43;exact an_ (qs _ (Grw.h _))) | (go_at_call 42;exact an_ (qf _ (Grw.h _)))))
   refine wpQuiet_nil ?_;intro w2 hH;have hb:=ah_ hH;clear hH g0 hR qs qf c0;replace DB:=DB.below hb;replace QB:=QB.below hb;replace PB:=PB.below hb;replace M0:=M0.below hb;replace hB:=Aa hB hb;clear hb
   cases pl with
   |none=>
    obtain rfl:-1=at':=hk.out;have qS:Hid (Bp d (i+1)=(b,p0)):=by
     show CN (Bp d i) i (rcO d i)=_;rw[hI.out,rcO,hG.out];unfold rdL;rw[hh.out];simp[CN]
    exact lB
   |some kf=>
    obtain rfl:((kf:Nat):Int)=at':=hk.out;obtain⟨fl,hn,_⟩:=Mq hh.out;obtain⟨D,hx⟩:∃ D,Hid (fl.d=D):=⟨_,rfl⟩;have hf:rdD d (slN i)=(D,true):=by rw[hG.out,rdL,hh.out];simp only;rw[hn,<-hx.out]
    have hM:D.size<=2000000:=by have:=hz (slN i);rw[hf] at this;exact this
    have hF:Hid (rcO d i=rsO D):=by show _=_;rw[rcO,hf];simp
    obtain⟨fb,fo,rfl,hN⟩:=hg.sl.cell kf fl hn;have hO:=(Zb.1 hn).1;rw[hg.sl.len] at hO;have d1:=Ab hB (hN 1 (.string D) (by rw[<-hx.out];rfl));have c0:=DB.cell 0;have hY:(0:Int)<=(kf:Nat):=sH;have hZ:((kf:Nat):Int)<ln:=sH;obtain⟨n1,qE⟩:∃ z,Hid ((rsO D).elim 0 (·.1)=z):=⟨_,rfl⟩;obtain⟨ok1,zj⟩:∃ z,Hid ((rsO D).isSome=z):=⟨_,rfl⟩;obtain⟨p1,hp⟩:∃ z,Hid ((rsO D).elim Ao (·.2)=z):=⟨_,rfl⟩;have qr:=IV D w2 hM (by have:=PB.lt;omega);rw[qE.out,zj.out,hp.out] at qr;go_wp2_with fail;refine qr.mono ?_;rintro e w3 ⟨⟨v3,rfl,M1⟩,hl⟩;obtain⟨ea1,en1,ec1,va1,vn1,vc1,ra1,rn1,rc1,la1,ln1,lc1,vr1,rfl,_⟩:=M1.out;have hj:Below w3.heap.size w3 (w3.alloc (.cells #[.int .i64 p1.size,.int .i64 p1.next,.slice ea1 en1 ec1,.slice va1 vn1 vc1,.slice ra1 rn1 rc1,.slice la1 ln1 lc1] 33)):=(Yg _ _).alloc (Zd _) _;obtain⟨b3,qD⟩:∃ b,b=w3.heap.size:=⟨_,rfl⟩;have P3:Blk (w3.alloc (.cells #[.int .i64 p1.size,.int .i64 p1.next,.slice ea1 en1 ec1,.slice va1 vn1 vc1,.slice ra1 rn1 rc1,.slice la1 ln1 lc1] 33)) b3 #[.int .i64 p1.size,.int .i64 p1.next,.slice ea1 en1 ec1,.slice va1 vn1 vc1,.slice ra1 rn1 rc1,.slice la1 ln1 lc1] 33:=Blk.new' _ _ _ _ qD;have hc:=Aa hl hj;have h4:=PB.lt;have h5:=hl.size;have hS:b3≠w.heap.size+1+1:=dz;replace DB:=DB.below hc;replace QB:=QB.below hc;replace PB:=PB.below hc;replace M0:=M0.below hc;replace M1:=(M1.below hj).mono (show w.heap.size+3<=_ by omega);replace hB:=Aa hB hc;clear hl hj hc qr;go_upto_region 9 with fail;rw[<-qD];clear qD;generalize w3.alloc (.cells #[.int .i64 p1.size,.int .i64 p1.next,.slice ea1 en1 ec1,.slice va1 vn1 vc1,.slice ra1 rn1 rc1,.slice la1 ln1 lc1] 33)=W3 at *;have hE:ok1=true->0<=n1:=fun ho=>by
     exact pJ
    have qS:Hid (Bp d (i+1)=if ok1=true∧n1 % 3=i∧b<n1 then (n1,p1) else (b,p0)):=by
     show CN (Bp d i) i (rcO d i)=_;rw[hI.out,hF.out];have h1:=zj.out;have h2:=qE.out;have h3:=hp.out;exact mQ
    clear hF qE zj hp;by_cases hup:ok1=true∧n1 % 3=i∧b<n1
    ·obtain⟨rfl,hm,hy⟩:=hup;have hQ:=hE rfl;rw[if_pos ⟨rfl,hm,hy⟩] at qS;have hC:(n1 % 3==(i:Int))=true:=oU;obtain⟨r0,r1,r2,r3,r4,r5⟩:=PB.sixM;have f0:=PB.frozen 0;have f1:=PB.frozen 1;have f2:=PB.frozen 2;have f3:=PB.frozen 3;have f4:=PB.frozen 4;have f5:=PB.frozen 5;obtain⟨t0,t1,t2,t3,t4,t5⟩:=P3.sixM;go_wp2;obtain⟨P8,ha⟩:=Gs PB (.int .i64 p1.size) (.int .i64 p1.next) (.slice ea1 en1 ec1) (.slice va1 vn1 vc1) (.slice ra1 rn1 rc1) (.slice la1 ln1 lc1);have M8:=M1.box ha PB;replace DB:=DB.grown ha sN;replace QB:=QB.grown ha sK;replace hB:=hB.grown ha (by have:=PB.lt;omega) (fun k e=>by cases e;omega);exact mU
    ·rw[if_neg hup] at qS
     cases ok1 with
     |false=>
      exact lB
     |true=>
      have hQ:=hE rfl;by_cases hm:n1 % 3=i
      ·have hC:(n1 % 3==(i:Int))=true:=oU;have hy:¬ b<n1:=fun h=>hup ⟨rfl,hm,h⟩;exact lB
      ·have hC:(n1 % 3==(i:Int))=false:=by rw[ZV];exact hm
       exact lB
  ·obtain rfl:i=3:=sH;have hJ:A=(b,p0):=by rw[<-hA.out,hI.out]
   subst hJ;go_upto_region 12 with fail;have he:Below wr.heap.size wr wr.drew:=(Yg _ _).drew;replace QB:=QB.below he;replace PB:=PB.below he;replace M0:=M0.below he;replace hB:=Aa hB he;have hU:(fun u=>u.cell? ⟨w.heap.size+1+1,0,none⟩=some (.int .i64 p0.size)∧u.cell? ⟨w.heap.size+1+1,1,none⟩=some (.int .i64 p0.next)∧u.cell? ⟨w.heap.size+1+1,2,none⟩=some (.slice ea0 en0 ec0)∧u.cell? ⟨w.heap.size+1+1,3,none⟩=some (.slice va0 vn0 vc0)∧u.cell? ⟨w.heap.size+1+1,4,none⟩=some (.slice ra0 rn0 rc0)∧u.cell? ⟨w.heap.size+1+1,5,none⟩=some (.slice la0 ln0 lc0)) wr.drew:=PB.sixM;refine aC_ (S:=(fun u=>u.cell? ⟨w.heap.size+1+1,0,none⟩=some (.int .i64 p0.size)∧u.cell? ⟨w.heap.size+1+1,1,none⟩=some (.int .i64 p0.next)∧u.cell? ⟨w.heap.size+1+1,2,none⟩=some (.slice ea0 en0 ec0)∧u.cell? ⟨w.heap.size+1+1,3,none⟩=some (.slice va0 vn0 vc0)∧u.cell? ⟨w.heap.size+1+1,4,none⟩=some (.slice ra0 rn0 rc0)∧u.cell? ⟨w.heap.size+1+1,5,none⟩=some (.slice la0 ln0 lc0))) 4 sI rfl ?_;generalize wr.drew=y0 at *;clear he;refine tk 0 ?_;refine tk 1 ?_;refine tk 2 ?_;obtain⟨r0,r1,r2,r3,r4,r5⟩:=QB.sixM;have f0:=QB.frozen 0;have f1:=QB.frozen 1;have f2:=QB.frozen 2;have f3:=QB.frozen 3;have f4:=QB.frozen 4;have f5:=QB.frozen 5;refine Ag (i:=3) sI rfl (fun K hK=>?_);go_simp;obtain⟨E8,ha⟩:=Gs QB (.int .i64 p0.size) (.int .i64 p0.next) (.slice ea0 en0 ec0) (.slice va0 vn0 vc0) (.slice ra0 rn0 rc0) (.slice la0 ln0 lc0);have P8:=PB.grown ha sK;have M8:=(M0.box ha QB).mono (show w.heap.size<=w.heap.size+3 by omega);have hL:=hB.grown ha (by have:=QB.lt;omega) (fun k e=>by cases e;omega);refine hK.out _ _ P8.sixM (fun hHeld=>?_);clear hK K;(try simp only[Act.put,Yj,Yq,Yr]);generalize ((((((y0).setCell ⟨w.heap.size+1,0,none⟩ (.int .i64 p0.size)).setCell ⟨w.heap.size+1,1,none⟩ (.int .i64 p0.next)).setCell ⟨w.heap.size+1,2,none⟩ (.slice ea0 en0 ec0)).setCell ⟨w.heap.size+1,3,none⟩ (.slice va0 vn0 vc0)).setCell ⟨w.heap.size+1,4,none⟩ (.slice ra0 rn0 rc0)).setCell ⟨w.heap.size+1,5,none⟩ (.slice la0 ln0 lc0)=W8 at *;refine wpAnyH_done sI ?_ _;go_wp2;refine YW (MR rfl _ W8 (w.heap.size+1) _ _ _ _ _ rfl rfl E8 underlying33 rfl sI) rfl ?_;exact⟨⟨_,rfl,M8⟩,hL⟩
def DJ (n:Int):Int->List Int->Bool
 |_,[]=>true
 |q,x::r=>decide (q<=x)&&(decide (x<n)&&DJ n (x+1) r)
def Fi (o:Dp)(t:Int):Dp:=if o.k=1∧t<o.d.size then ⟨o.k,o.nm,o.tt,o.d.extract 0 t.toNat⟩ else o
def MT (ops:List Dp)(t:Int):List Int->List Dp
 |[]=>[]
 |x::r=>(match ops[x.toNat]? with | some o=>[if r=[] then Fi o t else o] | none=>[])++MT ops t r
def crF (l:List Fl)(s:List Dp):List Fl:=s.foldl (fun l o=>(doF l o).1) l
def crL (d:Dk)(keep:List Int)(t:Int):List Fl:=crF d.safe (MT d.ops t keep)
def Bw (d:Dk)(keep:List Int)(t:Int):Dk×Bool:=
 if (Az d&&DJ d.ops.length 0 keep&&decide (0<=t))=true then (if Aq (crL d keep t)=true then (⟨crL d keep t,crL d keep t,[]⟩,true) else (noD,false)) else (noD,false)
theorem LS {m:Int}:∀ {l:List Int} {q:Int},DJ m q l=true->(∀ x∈l,q<=x∧x<m)∧(q<=m->(l.length:Int)<=m-q)
 |[],q,_=>⟨fun x hx=>(by cases hx),fun h=>by simp;omega⟩
 |x::r,q,h=>by
  simp only[DJ,Zf,ZU] at h
  obtain⟨h1,h2,h3⟩:=h
  obtain⟨i1,i2⟩:=LS h3
  refine ⟨fun y hy=>?_,fun _=>?_⟩
  ·rcases Zn.1 hy with rfl | hy
   ·exact⟨h1,h2⟩
   ·have:=i1 y hy;omega
  ·have:=i2 sH;simp only[Zw];omega
theorem LX {x:Fl}:∀ (l:List Fl),x∈CO x l:=by
 intro l;unfold CO;rw[Th];simp
theorem NO:∀ {ops:List Dp} {l l':List Fl},runF l ops=some l'->∀ o∈ops,AP o=true∧o.d.size<=200000
 |[],_,_,_,o,ho=>by cases ho
 |p::r,l,l',h,o,ho=>by
  have h':(if ((doF l p).2&&AP p&&Aq (doF l p).1)=true then runF (doF l p).1 r else none)=some l':=h
  split at h'
  ·rename_i hc
   simp only[Zf] at hc
   rcases Zn.1 ho with rfl | ho
   ·refine ⟨hc.1.2,?_⟩
    obtain⟨_,hs,_⟩:=Ba hc.2
    rcases formB_k hc.1.2 with hk | hk | hk
    ·have hb:∃ f∈(doF l o).1,o.d.size<=f.d.size:=by
      unfold doF
      cases hq:atF l o.nm with
      |none=>simp only[hk,if_true];exact⟨_,LX l,Zd _⟩
      |some i=>
       obtain⟨f,hf⟩:∃ f,l[i]?=some f:=by
        unfold atF at hq;obtain⟨h1,_,_⟩:=ZA.1 hq;exact⟨l[i],by simp[h1]⟩
       simp only[hf,hk,if_true];exact⟨_,LX l,by show o.d.size<=(f.d++o.d).size;rw[ByteArray.size_append];omega⟩
     obtain⟨f,hf,hg⟩:=hb;have:=Ck hf;omega
    all_goals
     have ha:=hc.1.2;simp only[AP,Zf] at ha;have he:emB o.d=true:=by
      have h2:=ha.2;rw[hk] at h2;simp at h2
      first | exact h2.2 | exact h2
     unfold emB at he;have:o.d.toList=(⟨#[]⟩:ByteArray).toList:=by simpa using he
     rw[Mr this];show 0<=_;omega
   ·exact NO h' o ho
  ·cases h'
theorem PM {d:Dk}(h:Az d=true):∀ o∈d.ops,AP o=true∧o.d.size<=200000:=NO (JE h)
theorem In {d:Dk}{keep:List Int}{t:Int}(h:(Az d&&DJ d.ops.length 0 keep&&decide (0<=t))=false):Bw d keep t=(noD,false):=by simp[Bw,h]
theorem Mv {d:Dk}{keep:List Int}{t:Int}(h:(Az d&&DJ d.ops.length 0 keep&&decide (0<=t))=true)(h2:Aq (crL d keep t)=false):Bw d keep t=(noD,false):=by simp[Bw,h,h2]
theorem PC {d:Dk}{keep:List Int}{t:Int}(h:(Az d&&DJ d.ops.length 0 keep&&decide (0<=t))=true)(h2:Aq (crL d keep t)=true):Bw d keep t=(⟨crL d keep t,crL d keep t,[]⟩,true):=by simp[Bw,h,h2]
def Jd (S:Nat)(l:List Fl):Prop:=∀ x∈l,x.nm.size<=9223372036854775807∧x.d.size<=S
theorem Nk {l:List Fl}{o:Dp}{S T:Nat}(hm:Jd S l)(ho:Gw o)(hd:o.d.size<=T):Jd (S+T) (doF l o).1:=by
 have hb:Jd (S+T) l:=fun x hx=>⟨(hm x hx).1,by have:=(hm x hx).2;omega⟩;exact lW
theorem Rn {o:Dp}(t:Int)(h:Gw o):Gw (Fi o t):=by
 unfold Fi;split
 ·obtain⟨g1,g2,g3⟩:=h;refine ⟨g1,g2,?_⟩;show (o.d.extract 0 t.toNat).size<=_;rw[ByteArray.size_extract];omega
 ·exact h
theorem LT {m q x:Int}{r:List Int}(h1:q<=x)(h2:x<m):DJ m q (x::r)=DJ m (x+1) r:=by simp[DJ,h1,h2]
theorem NJ {m q x:Int}{r:List Int}(h1:x<q):DJ m q (x::r)=false:=by simp[DJ];omega
theorem QF {m q x:Int}{r:List Int}(h1:m<=x):DJ m q (x::r)=false:=by simp[DJ];omega
theorem lh{p:Prop}(h:p:=by
 have qT:Hid (crL d keep t=crF (doF cur o).1 (MT d.ops t (keep.drop (j+1)))):=by
  show _=_;rw[hI.out,kO.out,zp];rfl
 have kj:Hid (o.d.size<=100000000):=by show _<=_;omega
 have jq:Hid (Jd (200000+200000*(j+1)) (doF cur o).1):=by
  show Jd _ _;rw[show 200000+200000*(j+1)=200000+200000*j+200000 by omega];exact Nk hb.out hso jK
 go_wp2_with fail;have kM:W5.grownBy ((((W5.setCell ⟨wr.heap.size,0,none⟩ (.int .i64 o.k)).setCell ⟨wr.heap.size,1,none⟩ (.string o.nm)).setCell ⟨wr.heap.size,2,none⟩ (.string o.tt)).setCell ⟨wr.heap.size,3,none⟩ (.string o.d)) (some wr.heap.size):=(af_ (af_ (af_ (af_ (Yh _ _) _ _) _ _) _ _) _ _);have zq:=ao_ zV kM (Zd _);clear kM v0 v1 v2 v3 e0 e1 e2 e3;generalize ((((W5.setCell ⟨wr.heap.size,0,none⟩ (.int .i64 o.k)).setCell ⟨wr.heap.size,1,none⟩ (.string o.nm)).setCell ⟨wr.heap.size,2,none⟩ (.string o.tt)).setCell ⟨wr.heap.size,3,none⟩ (.string o.d))=W6 at *;refine (Gc a2 n2 c2 cur o W6 (N.sl.below zq) N.slH.spot N.slH.nil sH (fun f hf=>by have:=(hb.out f hf).2;omega) kj.out).mono ?_;rintro e w7 ⟨⟨a7,n7,c7,rfl,R7⟩,zD⟩;have qB:=Aa (Aa hB zq) zD;have jL:=zq.size;have kP:n7<=60+(j+1):=by rw[<-R7.sl.len];have:=H4 cur o;have:=lN.out;omega
 generalize (doF cur o).1=nx at *;generalize (doF cur o).2=ok at *;clear zq zD N hI V5 zV K3;go_wp2;go_roundw
 case rel=>exact⟨j+1,a7,n7,c7,nx,sH,sQ,rfl,R7.mono (by have:=zC.out;have:=kH.out;omega),jq,kP,qT,qB⟩
 case measure=>simp[intOf];omega):p:=h
theorem lG{p:Prop}(h:p:=by
 refine YW (ad_ rfl _ W8 (w.heap.size+1) _ _ _ _ _ rfl E8 underlying27 rfl sI rfl) rfl ?_
 exact⟨⟨_,by rw[hr.out]<;>rfl,by rw[hr.out];exact zJ.mono sH⟩,qB⟩):p:=h
theorem mA{p:Prop}(h:p:=by
 go_wp2;go_roundw
 case rel=>exact⟨k+1,x+1,sH,sQ,fun h=>absurd h sH,fun y _ hy=>(by rw[show k+1-1=k from rfl,hx] at hy;cases hy;rfl),qT,by show _<=_;omega,Aa hB qj⟩
 case measure=>simp[intOf];omega):p:=h
theorem dD{p:Prop}(h:p:=by have:=zC.out;have:=kH.out;first | omega | (simp;omega)):p:=h
theorem MV (v:Value)(d:Dk)(ka:Option Addr)(kn kc:Nat)(keep:List Int)(t:Int)(w:World)(h:Bv w v d)(hd:Dg d)(hk:Hi w ka kn keep)(hkn:kn<=4194304) :
  Calls prog 122 #[v,.slice ka kn kc,.int .i64 t] w fun e w'=>(∃ v',e=.returned (.tuple #[v',.bool (Bw d keep t).2])∧A5 (w.heap.size+1) w' v' (Bw d keep t).1)∧Below w.heap.size w w':=by
 have hD:=h;obtain⟨la,ln,lc,sa,sn,sc,oa,on,oc,rfl,hL,hS,hO⟩:=h;have zc:on<=4000000:=by rw[<-hO.sl.len];exact hd.ops.1
 have zd:sn<=4000000:=by rw[<-hS.sl.len];exact hd.safe.1
 have lO:Hid (d.ops.length=on):=hO.sl.len;have lS:Hid (d.safe.length=sn):=hS.sl.len;have lK:Hid (keep.length=kn):=hk.len;obtain⟨W0,qx⟩:∃ W0,W0=(w.alloc (.cells #[.slice la ln lc,.slice sa sn sc,.slice oa on oc] 27)).alloc (.cells #[.slice none 0 0,.slice none 0 0,.slice none 0 0] 27):=⟨_,rfl⟩;have hE:Below w.heap.size w W0:=o8;have K:Blk W0 w.heap.size #[.slice la ln lc,.slice sa sn sc,.slice oa on oc] 27:=oP;have E:Blk W0 (w.heap.size+1) #[.slice none 0 0,.slice none 0 0,.slice none 0 0] 27:=by rw[qx];exact Blk.new' _ _ _ _ sK
 have zM:Hid (W0.heap.size=w.heap.size+2):=o9;go_enter func122,ntmps122;go_wp2_with fail;rw[<-qx];clear qx;refine (Dt _ d W0 (hD.below hE) hd).mono ?_;rintro e w1 ⟨rfl,qe⟩;replace K:=K.below qe;replace E:=E.below qe;have zC:Hid (w.heap.size+2<=w1.heap.size):=oB;replace qe:=Aa hE qe;clear hE zM
 cases ho:Az d
 ·have hr:Hid (Bw d keep t=(noD,false)):=In (by rw[ho];rfl);obtain⟨⟨z0,z1,z2⟩,f0,f1,f2⟩:=Av E;have NR:=G7 (w.heap.size+2) w1;go_wp2;have E8:=E.put3 (x:=.slice none 0 0) (y:=.slice none 0 0) (z:=.slice none 0 0);have ha:=AW w1 (w.heap.size+1) (.slice none 0 0) (.slice none 0 0) (.slice none 0 0);have zJ:=NR.off ha sH;have qB:=ao_ qe ha sH;generalize ((w1.setCell ⟨w.heap.size+1,0,none⟩ (.slice none 0 0)).setCell ⟨w.heap.size+1,1,none⟩ (.slice none 0 0)).setCell ⟨w.heap.size+1,2,none⟩ (.slice none 0 0)=W8 at *;exact lG
 by_cases ht:t<0
 ·have hr:Hid (Bw d keep t=(noD,false)):=In (by rw[YV (show ¬ 0<=t by omega),Bool.and_false]);obtain⟨⟨z0,z1,z2⟩,f0,f1,f2⟩:=Av E;have NR:=G7 (w.heap.size+2) w1;go_wp2;have E8:=E.put3 (x:=.slice none 0 0) (y:=.slice none 0 0) (z:=.slice none 0 0);have ha:=AW w1 (w.heap.size+1) (.slice none 0 0) (.slice none 0 0) (.slice none 0 0);have zJ:=NR.off ha sH;have qB:=ao_ qe ha sH;generalize ((w1.setCell ⟨w.heap.size+1,0,none⟩ (.slice none 0 0)).setCell ⟨w.heap.size+1,1,none⟩ (.slice none 0 0)).setCell ⟨w.heap.size+1,2,none⟩ (.slice none 0 0)=W8 at *;exact lG
 have hG:Hid (DJ on 0 keep=false->Bw d keep t=(noD,false)):=fun hn=>In (by rw[ho,lO.out,hn];rfl);have hg:Hid (DJ on 0 keep=true->(Az d&&DJ d.ops.length 0 keep&&decide (0<=t))=true):=fun hn=>by rw[ho,lO.out,hn,decide_eq_true (show 0<=t by omega)];rfl
 go_wp2_with fail;go_loopw [8] (fun ix wr=>∃ (k:Nat) (q:Int),k<=kn∧ix=.int .i64 k∧Hid (k=0->q=0)∧Hid (∀ y,0<k->keep[k-1]?=some y->q=y+1)∧Hid (DJ on 0 keep=DJ on q (keep.drop k))∧Hid (0<=q)∧Below w1.heap.size w1 wr) (fun ix _=>kn-(intOf ix).toNat)
 case atStart=>exact⟨0,0,Zg _,rfl,fun _=>rfl,fun y h=>absurd h sH,rfl,YB _,Yg _ _⟩
 case round=>
  obtain⟨k,q,q9,rfl,hZ,h0,hI,h3,hB⟩:=hrel;have hC:=Aa qe hB;have K3:=K.below hB;by_cases hlt:k<kn
  ·obtain⟨kb,ko,x,rfl,hx,cx⟩:=nW_ (hk.below hC) hlt;have hj:Hid (keep.drop k=x::keep.drop (k+1)):=al_ hx;have qa:(k:Int)<kn:=sH;have qb:(0:Int)<=k:=sH;obtain⟨k0,k1,k2⟩:=K3.three;go_wp2_with fail;by_cases hix:0<=x∧x<=(on:Int)-1
   ·have hl:(decide ((0:Int)<=x)&&decide (x<=(on:Int)-1))=true:=sN;by_cases hk0:k=0
    ·have qT:Hid (DJ on 0 keep=DJ on (x+1) (keep.drop (k+1))):=by
      show _=_;rw[hI.out,hj.out];exact LT (by have:=hZ.out hk0;omega) sH
     have hN:¬ (0:Int)<k:=sH;have qc:decide ((0:Int)<k)=false:=by simpa using hN
     have qp:¬ 0<k:=sH;clear hk0;have g2:=Ad k2;have gx:=Ad cx;have hm:=aA_ wr;refine ab_ sI sI ?_;repeat (go_big_quiet_step (first | (go_at_call 85;have qq:=Eh x 0 (on-1);rw[hl] at qq;exact am_ (qq _))))
     refine wpQuiet_nil ?_;intro w2 he;have qj:=ah_ he;clear he g2 gx hm;exact mA
    ·obtain⟨kb2,ko2,y,hJ,hy,cy⟩:=nW_ (hk.below hC) (show k-1<kn by omega);obtain⟨rfl,rfl⟩:kb2=kb∧ko2=ko:=by cases hJ;exact⟨rfl,rfl⟩
     have h4:Hid (q=y+1):=h0.out y sH hy;have hN:(0:Int)<k:=sH;have qc:decide ((0:Int)<k)=true:=by simpa using hN
     have qp:0<k:=sH;have za:(((k:Int)-1).toNat)=k-1:=sH;have ql:(0:Int)<=(k:Int)-1:=sH;have qm:(k:Int)-1<kn:=sH;by_cases hxy:x<=y
     ·have q2:decide (x<=y)=true:=by simpa using hxy
      have hr:Hid (Bw d keep t=(noD,false)):=hG.out (by rw[hI.out,hj.out];exact NJ (by have:=h4.out;omega));have g2:=Ad k2;have gx:=Ad cx;have gy:=Ad cy;have hm:=aA_ wr;refine ab_ sI sI ?_;repeat (go_big_quiet_step (first | (go_at_call 85;have qq:=Eh x 0 (on-1);rw[hl] at qq;exact am_ (qq _))))
      refine wpQuiet_nil ?_;intro w2 he;have qj:=ah_ he;clear he g2 gx hm;clear gy k0 k1 k2 cx cy;replace E:=(E.below hB).below qj;replace qj:=Aa hC qj;obtain⟨⟨z0,z1,z2⟩,f0,f1,f2⟩:=Av E;have NR:=G7 (w.heap.size+2) w2;go_wp2;have E8:=E.put3 (x:=.slice none 0 0) (y:=.slice none 0 0) (z:=.slice none 0 0);have ha:=AW w2 (w.heap.size+1) (.slice none 0 0) (.slice none 0 0) (.slice none 0 0);have zJ:=NR.off ha sH;have qB:=ao_ qj ha sH;generalize ((w2.setCell ⟨w.heap.size+1,0,none⟩ (.slice none 0 0)).setCell ⟨w.heap.size+1,1,none⟩ (.slice none 0 0)).setCell ⟨w.heap.size+1,2,none⟩ (.slice none 0 0)=W8 at *;exact lG
     ·have q2:decide (x<=y)=false:=sN;have qT:Hid (DJ on 0 keep=DJ on (x+1) (keep.drop (k+1))):=by
       show _=_;rw[hI.out,hj.out];exact LT (by have:=h4.out;omega) sH
      have g2:=Ad k2;have gx:=Ad cx;have gy:=Ad cy;have hm:=aA_ wr;refine ab_ sI sI ?_;repeat (go_big_quiet_step (first | (go_at_call 85;have qq:=Eh x 0 (on-1);rw[hl] at qq;exact am_ (qq _))))
      refine wpQuiet_nil ?_;intro w2 he;have qj:=ah_ he;clear he g2 gx hm;clear gy;exact mA
   ·have hl:(decide ((0:Int)<=x)&&decide (x<=(on:Int)-1))=false:=sN
    have hr:Hid (Bw d keep t=(noD,false)):=hG.out (by
     rw[hI.out,hj.out];by_cases q0:x<0
     ·exact NJ (by have:=h3.out;omega)
     ·exact QF sH)
    have g2:=Ad k2;have gx:=Ad cx;have hm:=aA_ wr;refine ab_ sI sI ?_;repeat (go_big_quiet_step (first | (go_at_call 85;have qq:=Eh x 0 (on-1);rw[hl] at qq;exact am_ (qq _))))
    refine wpQuiet_nil ?_;intro w2 he;have qj:=ah_ he;clear he g2 gx hm;clear k0 k1 k2 cx;replace E:=(E.below hB).below qj;replace qj:=Aa hC qj;obtain⟨⟨z0,z1,z2⟩,f0,f1,f2⟩:=Av E;have NR:=G7 (w.heap.size+2) w2;go_wp2;have E8:=E.put3 (x:=.slice none 0 0) (y:=.slice none 0 0) (z:=.slice none 0 0);have ha:=AW w2 (w.heap.size+1) (.slice none 0 0) (.slice none 0 0) (.slice none 0 0);have zJ:=NR.off ha sH;have qB:=ao_ qj ha sH;generalize ((w2.setCell ⟨w.heap.size+1,0,none⟩ (.slice none 0 0)).setCell ⟨w.heap.size+1,1,none⟩ (.slice none 0 0)).setCell ⟨w.heap.size+1,2,none⟩ (.slice none 0 0)=W8 at *;exact lG
  ·obtain rfl:k=kn:=sH;have hn:DJ on 0 keep=true:=by rw[hI.out,Ze (Zm lK.out)];rfl
   replace hg:=hg.out hn;have hz:Hid (_->_):=fun h2=>Mv hg h2;have hA:Hid (_->_):=fun h2=>PC hg h2;clear hg hG hI hZ h0 h3;obtain⟨hl,qi⟩:=LS hn;have hQ:=PM ho;obtain⟨_,h8,hs⟩:=BR ho;obtain⟨hR,h5,h9⟩:=Ba h8;have qn:k<=200:=by have:=qi sH;rw[lK.out] at this;rw[lO.out] at hs;omega
   rw[lS.out] at hR;have hP:¬ (k:Int)<k:=sH;have hM:Jd 200000 d.safe:=fun x hx=>by
    have h1:=EB h9 x hx;have h2:=Ck hx;simp only[nmB,Zf,ZU] at h1;omega
   have kH:Hid (w1.heap.size<=wr.heap.size):=hB.size;obtain⟨k0,k1,k2⟩:=K3.three;have ka1:=fun ob=>Aj (w:=wr) ob k1;have hv:Below wr.heap.size wr (wr.alloc (.cells #[] 39)):=(Yg _ _).alloc (Zd _) _;go_wp2_with (at_builtin;refine ag_ rfl (fun KK hH=>Cl _ _ rfl (w.heap.size+2) _ 0 0 [] rfl (aw_ (Blk.new' _ _ _ _ sK) dD) sa sn sc d.safe rfl ((hS.sl.below hC).below hv) hS.spot hS.nil sn (Zq _) sH dD (fun a3 cap3 w3 R3 hX=>hH _ _ ?_));refine KR.out ?_);refine KR.mk ?_;have hU:Below wr.heap.size wr w3:=Yi hv hX hv.size (fun j e=>by simp[Value.ownBlock] at e;omega);have R4:Ac Fl.cs 2 39 w3 (w.heap.size+2) a3 sn cap3 d.safe:=by simpa using R3
   have hV:=Aa hB hU;clear R3 hX hv hU k0 k1 k2 ka1 K3 hC;go_wp2_with fail;go_loopw [9,10] (fun now ix wr=>∃ (j:Nat) (a2:Option Addr) (n2 c2:Nat) (cur:List Fl),j<=k∧ix=.int .i64 j∧now=.slice a2 n2 c2∧Ac Fl.cs 2 39 wr (w.heap.size+2) a2 n2 c2 cur∧Hid (Jd (200000+200000*j) cur)∧n2<=60+j∧Hid (crL d keep t=crF cur (MT d.ops t (keep.drop j)))∧Below w1.heap.size w1 wr) (fun _ ix _=>k-(intOf ix).toNat)
   case atStart=>exact⟨0,a3,sn,cap3,d.safe,Zg _,rfl,rfl,R4,(by show Jd _ _;rw[Nat.mul_zero,Nat.add_zero];exact hM),sH,rfl,hV⟩
   case round=>
    clear R4 hV hB kH;obtain⟨j,a2,n2,c2,cur,q8,rfl,rfl,N,hb,zb,hI,hB⟩:=hrel;have hC:=Aa qe hB;have K3:=K.below hB;have lN:Hid (cur.length=n2):=N.sl.len;have kH:Hid (w1.heap.size<=wr.heap.size):=hB.size;by_cases hlt:j<k
    ·obtain⟨kb,ko,x,rfl,hx,cx⟩:=nW_ (hk.below hC) hlt;obtain⟨q0,q1⟩:=hl x (Zc hx);have q3:x.toNat<on:=sH;obtain⟨b,off,o,hJ,hp,c0,c1,c2',c3'⟩:=PO (hO.sl.below hC) q3;obtain⟨q7,jK⟩:=hQ o (Zc hp);have hso:=(hd.ops.2 o (Zc hp)).1;have hj:keep.drop j=x::keep.drop (j+1):=al_ hx;have kO:Hid (MT d.ops t (keep.drop j)=(if keep.drop (j+1)=[] then Fi o t else o)::MT d.ops t (keep.drop (j+1))):=by
      show _=_;rw[hj];show (match d.ops[x.toNat]? with | some o=>[if keep.drop (j+1)=[] then Fi o t else o] | none=>[])++_=_;rw[hp];rfl
     have hc:Hid (keep.drop (j+1)=[]↔j+1=k):=by
      show _↔_;rw[List.drop_eq_nil_iff,lK.out];omega
     clear hp hx hj;have qa:(j:Int)<k:=sH;have qb:(0:Int)<=j:=sH;have he:x<on:=q1;have zm:(x.toNat:Int)=x:=sH;subst hJ;obtain⟨k0,k1,k2⟩:=K3.three;go_wp2_with fail;have q6:(fun u=>u.cell? ⟨w.heap.size,2,none⟩=some (.slice (some ⟨b,off,none⟩) on oc)∧u.cell? ⟨kb,ko+j,none⟩=some (.int .i64 x)∧u.cell? ⟨b,off+x.toNat*4,none⟩=some (.int .i64 o.k)∧u.cell? ⟨b,off+x.toNat*4+1,none⟩=some (.string o.nm)∧u.cell? ⟨b,off+x.toNat*4+2,none⟩=some (.string o.tt)∧u.cell? ⟨b,off+x.toNat*4+3,none⟩=some (.string o.d)) wr.drew:=⟨k2,cx,c0,c1,c2',c3'⟩;refine ar_ (S:=(fun u=>u.cell? ⟨w.heap.size,2,none⟩=some (.slice (some ⟨b,off,none⟩) on oc)∧u.cell? ⟨kb,ko+j,none⟩=some (.int .i64 x)∧u.cell? ⟨b,off+x.toNat*4,none⟩=some (.int .i64 o.k)∧u.cell? ⟨b,off+x.toNat*4+1,none⟩=some (.string o.nm)∧u.cell? ⟨b,off+x.toNat*4+2,none⟩=some (.string o.tt)∧u.cell? ⟨b,off+x.toNat*4+3,none⟩=some (.string o.d))) 9 sI sI ?_;refine tk 0 ?_;refine tk 1 ?_;refine tk 2 ?_;refine tk 3 ?_;refine tk 4 ?_;refine tk 5 ?_;refine tk 6 ?_;refine tk 7 ?_;refine Ag (i:=8) sI rfl (fun K hK=>?_);go_simp;have zV:Below wr.heap.size wr (wr.alloc (.cells #[.int .i64 0,.string ⟨#[]⟩,.string ⟨#[]⟩,.string ⟨#[]⟩] 89)).drew:=((Yg _ _).alloc (Zd _) _).drew;have V5:Blk (wr.alloc (.cells #[.int .i64 0,.string ⟨#[]⟩,.string ⟨#[]⟩,.string ⟨#[]⟩] 89)).drew wr.heap.size #[.int .i64 0,.string ⟨#[]⟩,.string ⟨#[]⟩,.string ⟨#[]⟩] 89:=(Blk.new wr _ _).drew;generalize (wr.alloc (.cells #[.int .i64 0,.string ⟨#[]⟩,.string ⟨#[]⟩,.string ⟨#[]⟩] 89)).drew=W5 at *;refine hK.out _ _ ⟨(K3.below zV).cell 2,Ab zV cx,Ab zV c0,Ab zV c1,Ab zV c2',Ab zV c3'⟩ (fun hHeld=>?_);clear hK K;(try simp only[Act.put,Yj,Yq,Yr]);refine wpAnyH_done sI ?_ _;refine lastL rfl ?_;clear hHeld k0 k1 k2 cx c0 c1 c2' c3';obtain⟨v0,v1,v2,v3⟩:=Fu V5;have e0:=V5.frozen 0;have e1:=V5.frozen 1;have e2:=V5.frozen 2;have e3:=V5.frozen 3;by_cases hla:j+1=k
     ·have hY:(j:Int)=(k:Int)-1:=sH;have qf:((j:Int)==(k:Int)-1)=true:=sN;by_cases hok1:o.k=1
      ·have qr:(o.k==1)=true:=by simpa using hok1
       by_cases htt:t<o.d.size
       ·have qs:decide (t<(o.d.size:Int))=true:=by simpa using htt
        have zl:t.toNat<=o.d.size:=sH;have zi:0<=t:=sH;have hT:Fi o t=⟨o.k,o.nm,o.tt,o.d.extract 0 t.toNat⟩:=by unfold Fi;rw[if_pos ⟨hok1,htt⟩]
        have qT:Hid (crL d keep t=crF (doF cur ⟨o.k,o.nm,o.tt,o.d.extract 0 t.toNat⟩).1 (MT d.ops t (keep.drop (j+1)))):=by
         show _=_;rw[hI.out,kO.out,if_pos (hc.out.2 hla),hT];rfl
        have hu:(o.d.extract 0 t.toNat).size<=200000:=df;have kj:Hid ((o.d.extract 0 t.toNat).size<=100000000):=by show _<=_;omega
        have jq:Hid (Jd (200000+200000*(j+1)) (doF cur ⟨o.k,o.nm,o.tt,o.d.extract 0 t.toNat⟩).1):=by
         show Jd _ _;rw[show 200000+200000*(j+1)=200000+200000*j+200000 by omega];exact Nk hb.out (hT▸Rn t hso) hu
        clear hT hu;clear hok1;iterate 82 (try (first | go_values | go_skip | go_guarded | go_step | go_upon | go_back))
        generalize o.d.extract 0 t.toNat=dx at *;have kM:W5.grownBy (((((W5.setCell ⟨wr.heap.size,0,none⟩ (.int .i64 o.k)).setCell ⟨wr.heap.size,1,none⟩ (.string o.nm)).setCell ⟨wr.heap.size,2,none⟩ (.string o.tt)).setCell ⟨wr.heap.size,3,none⟩ (.string o.d)).setCell ⟨wr.heap.size,3,none⟩ (.string dx)) (some wr.heap.size):=(af_ (af_ (af_ (af_ (af_ (Yh _ _) _ _) _ _) _ _) _ _) _ _);have V6:Blk (((((W5.setCell ⟨wr.heap.size,0,none⟩ (.int .i64 o.k)).setCell ⟨wr.heap.size,1,none⟩ (.string o.nm)).setCell ⟨wr.heap.size,2,none⟩ (.string o.tt)).setCell ⟨wr.heap.size,3,none⟩ (.string o.d)).setCell ⟨wr.heap.size,3,none⟩ (.string dx)) wr.heap.size #[.int .i64 o.k,.string o.nm,.string o.tt,.string dx] 89:=by
         have:=((((V5.set 0 (.int .i64 o.k)).set 1 (.string o.nm)).set 2 (.string o.tt)).set 3 (.string o.d)).set 3 (.string dx);simpa using this
        have zq:=ao_ zV kM (Zd _);clear kM v0 v1 v2 v3 e0 e1 e2 e3;generalize (((((W5.setCell ⟨wr.heap.size,0,none⟩ (.int .i64 o.k)).setCell ⟨wr.heap.size,1,none⟩ (.string o.nm)).setCell ⟨wr.heap.size,2,none⟩ (.string o.tt)).setCell ⟨wr.heap.size,3,none⟩ (.string o.d)).setCell ⟨wr.heap.size,3,none⟩ (.string dx))=W6 at *;obtain⟨v0,v1,v2,v3⟩:=Fu V6;go_wp2_with fail;clear v0 v1 v2 v3 V6;refine (Gc a2 n2 c2 cur ⟨o.k,o.nm,o.tt,dx⟩ W6 (N.sl.below zq) N.slH.spot N.slH.nil sH (fun f hf=>by have:=(hb.out f hf).2;omega) kj.out).mono ?_;rintro e w7 ⟨⟨a7,n7,c7,rfl,R7⟩,zD⟩;have qB:=Aa (Aa hB zq) zD;have jL:=zq.size;have kP:n7<=60+(j+1):=by rw[<-R7.sl.len];have:=H4 cur ⟨o.k,o.nm,o.tt,dx⟩;have:=lN.out;omega
        generalize (doF cur ⟨o.k,o.nm,o.tt,dx⟩).1=nx at *;generalize (doF cur ⟨o.k,o.nm,o.tt,dx⟩).2=ok at *;clear zq zD N hI V5 zV K3;go_wp2;go_roundw
        case rel=>exact⟨j+1,a7,n7,c7,nx,sH,sQ,rfl,R7.mono (by have:=zC.out;have:=kH.out;omega),jq,kP,qT,qB⟩
        case measure=>simp[intOf];omega
       ·have qs:decide (t<(o.d.size:Int))=false:=by simpa using htt
        have zp:(if keep.drop (j+1)=[] then Fi o t else o)=o:=by
         rw[if_pos (hc.out.2 hla)];unfold Fi;rw[if_neg (fun c=>htt c.2)]
        clear hok1;exact lh
      ·have qr:(o.k==1)=false:=by simpa using hok1
       have zp:(if keep.drop (j+1)=[] then Fi o t else o)=o:=by
        rw[if_pos (hc.out.2 hla)];unfold Fi;rw[if_neg (fun c=>hok1 c.1)]
       exact lh
     ·have hY:¬ (j:Int)=(k:Int)-1:=sH;have qf:((j:Int)==(k:Int)-1)=false:=by simpa using hY
      have zp:(if keep.drop (j+1)=[] then Fi o t else o)=o:=by rw[if_neg (fun c=>hla (hc.out.1 c))]
      exact lh
    ·obtain rfl:j=k:=sH;have hq:crL d keep t=cur:=by
      rw[hI.out,Ze (Zm lK.out)];rfl
     rw[hq] at hz hA;have h7:If cur:=fun x hx=>by have:=hb.out x hx;exact⟨this.1,sH⟩
     replace E:=E.below hB;have hP:¬ (j:Int)<j:=sH;clear hq hI K3;go_wp2_with fail;refine (Bu a2 n2 c2 cur wr N.sl h7 sH).mono ?_;rintro e w7 ⟨rfl,zD⟩;replace E:=E.below zD;have hF:=Aa hC zD;have N7:=N.below zD;have q4:Hid (wr.heap.size<=w7.heap.size):=zD.size
     cases hW:Aq cur
     ·have hr:Hid (Bw d keep t=(noD,false)):=hz.out hW;clear hz hA;obtain⟨⟨z0,z1,z2⟩,f0,f1,f2⟩:=Av E;have NR:=G7 (w.heap.size+2) w7;go_wp2;have E8:=E.put3 (x:=.slice none 0 0) (y:=.slice none 0 0) (z:=.slice none 0 0);have ha:=AW w7 (w.heap.size+1) (.slice none 0 0) (.slice none 0 0) (.slice none 0 0);have zJ:=NR.off ha sH;have qB:=ao_ hF ha sH;generalize ((w7.setCell ⟨w.heap.size+1,0,none⟩ (.slice none 0 0)).setCell ⟨w.heap.size+1,1,none⟩ (.slice none 0 0)).setCell ⟨w.heap.size+1,2,none⟩ (.slice none 0 0)=W8 at *;exact lG
     ·have hr:Hid (Bw d keep t=(⟨cur,cur,[]⟩,true)):=hA.out hW;clear hz hA;have hw:Below w7.heap.size w7 (w7.alloc (.cells #[] 39)):=(Yg _ _).alloc (Zd _) _;have q5:w.heap.size+2<=w7.heap.size:=by have:=zC.out;have:=kH.out;have:=q4.out;omega
      go_wp2_with (at_builtin;refine ag_ rfl (fun KK hH=>Cl _ _ rfl (w.heap.size+2) _ 0 0 [] rfl (aw_ (Blk.new' _ _ _ _ sK) rm) a2 n2 c2 cur rfl (N7.sl.below hw) N7.slH.spot N7.slH.nil n2 (Zq _) sH rm (fun a4 cap4 w8 R8 ha=>hH _ _ ?_));refine KR.out ?_);refine KR.mk ?_;have hh:Below w7.heap.size w7 w8:=Yi hw ha hw.size (fun j e=>by simp[Value.ownBlock] at e;omega);have R9:Ac Fl.cs 2 39 w8 (w.heap.size+2) a4 n2 cap4 cur:=by simpa using R8
      have N9:=N7.below hh;have h6:=Aa hF hh;replace E:=E.below hh;clear R8 ha hw N7 N hF;obtain⟨⟨z0,z1,z2⟩,f0,f1,f2⟩:=Av E;have DR:A5 (w.heap.size+2) w8 (.agg #[.slice a2 n2 c2,.slice a4 n2 cap4,.slice none 0 0]) ⟨cur,cur,[]⟩:=⟨_,_,_,_,_,_,_,_,_,rfl,N9,R9,aB_⟩;go_wp2;have E8:=E.put3 (x:=.slice a2 n2 c2) (y:=.slice a4 n2 cap4) (z:=.slice none 0 0);have ha:=AW w8 (w.heap.size+1) (.slice a2 n2 c2) (.slice a4 n2 cap4) (.slice none 0 0);have zJ:=DR.off ha sH;have qB:=ao_ h6 ha sH;generalize ((w8.setCell ⟨w.heap.size+1,0,none⟩ (.slice a2 n2 c2)).setCell ⟨w.heap.size+1,1,none⟩ (.slice a4 n2 cap4)).setCell ⟨w.heap.size+1,2,none⟩ (.slice none 0 0)=W8 at *;exact lG
def KQ (D:List Nat)(a0:Act)(Φ:(Nat->Value)->World->Prop):Exit->Act->World->Prop:=fun e a u=>e=.normal∧∃ x,a=AY x D a0∧Φ x u
theorem EZ {P:Program}{l:List Oper}{Q:Exit->Act->World->Prop}{id:Nat}{a0:Act}{w:World}(S:World->Prop)(n:Nat)(D:List Nat)(Φ:(Nat->Value)->World->Prop)(hm:P.follows .mixedOrders=true)(hn:l.toArray.size=n)
  (h1:wpAnyH P .any l.toArray (KQ D a0 Φ) S n (Array.replicate n false) a0 w.drew) (h2:∀ x u,Φ x u->Q .normal (AY x D a0) u):(Code.region id l.toArray true).wp P Q a0 w:=by
 refine Code.wp_mono ?_ (aC_ (S:=S) n hm hn h1);rintro e a u ⟨rfl,x,rfl,hx⟩;exact h2 x u hx
theorem Ok {D:List Nat}{a0:Act}{Φ:(Nat->Value)->World->Prop}{x y:Act}:∀ c (w:World),KQ D a0 Φ (.panic c) x w->KQ D a0 Φ (.panic c) y w:=fun _ _ h=>by cases h.1
theorem F7 {D:List Nat}{a0 a:Act}{Φ:(Nat->Value)->World->Prop}{u:World}(hA:a=AY (fun k=>a.eval (.tmp k)) D a0)(hΦ:Φ (fun k=>a.eval (.tmp k)) u):KQ D a0 Φ .normal a u:=⟨rfl,_,hA,hΦ⟩
theorem U4 {P:Program}{D:List Nat}{a0:Act}{Φ:(Nat->Value)->World->Prop}{md:Region.Mode}{S:World->Prop}{l:List Oper}{i:Nat}{oi:Oper}{v:Value}{fuel:Nat}{listed:Array Bool}{a:Act}{w:World}(hi:l[i]?=some oi)
  (hs:Region.noSelect l.toArray=true) (hf:Region.free md l.toArray listed i=true) (hr:(Region.ready md l.toArray listed).contains i=true)
  (hy:YieldsIf P l.toArray S oi v a) (hS:S w)
  (h:wpAnyH P md l.toArray (KQ D a0 Φ) S fuel (listed.setIfInBounds i true) (a.put oi.dst v) w):wpAnyH P md l.toArray (KQ D a0 Φ) S (fuel+1) listed a w:=
 NX hi hs hf hr (fun c _ w h=>Ok c w h) hy hS h
theorem tkc {P:Program}{D:List Nat}{a0:Act}{Φ:(Nat->Value)->World->Prop}{md:Region.Mode}{S:World->Prop}{l:List Oper}(i:Nat){oi:Oper}{v:Value}{fuel:Nat}{listed li:Array Bool}{a b:Act}{w:World}(h:wpAnyH P md l.toArray (KQ D a0 Φ) S fuel li b w)(hi:l[i]?=some oi:=by rfl)
  (hB:(Region.noSelect l.toArray&&Region.free md l.toArray listed i&&(Region.ready md l.toArray listed).contains i)=true:=by kernel_rfl) (hw:Region.wanted oi (yielded l.toArray a.tmps)=true:=by rfl)
  (hy:∀ w,S w->(execOp a.eval oi).run P w=.ok (.value v) w:=by (intro u hu;(try dsimp only at hu);go_simp<;>with_reducible rfl)) (hS:S w:=by first | assumption | trivial)
  (hl:listed.setIfInBounds i true=li:=by (try simp only[Yj,Yq,Yr]);rfl) (ha:a.put oi.dst v=b:=by (try simp only[Act.put,Yj,Yq,Yr]);rfl):wpAnyH P md l.toArray (KQ D a0 Φ) S (fuel+1) listed a w:=by
 subst hl ha;simp only[Zf] at hB;exact U4 hi hB.1.1 hB.1.2 hB.2 (.inl ⟨hw,hy⟩) hS h
theorem L7:∀ (ops:List Dp) (l:List Fl) (o:Dp),runF l (ops++[o])=match runF l ops with | none=>none | some m=>runF m [o]
 |[],l,o=>rfl
 |p::r,l,o=>by
  rw[YF]
  show (if _ then runF (doF l p).1 (r++[o]) else none)=match (if _ then runF (doF l p).1 r else none) with | none=>none | some m=>runF m [o]
  split
  ·exact L7 r (doF l p).1 o
  ·rfl
theorem Jw {d:Dk}{o:Dp}(h:Az d=true)(h0:(DE d o).2=0):Az (DE d o).1=true∧DE d o=(⟨(doF d.live o).1,d.safe,d.ops++[o]⟩,0)∧Aq (doF d.live o).1=true:=by
 obtain⟨h1,h2,h3⟩:=BR h;have hr:=JE h;unfold DE at h0 ⊢
 cases hf:AP o
 ·simp[hf] at h0
 ·cases hk:(doF d.live o).2
  ·simp[hf,hk] at h0
  ·cases hc:(decide (d.ops.length=200)||!Aq (doF d.live o).1)
   ·simp only[Bool.or_eq_false_iff,YU,Bool.not_eq_false'] at hc;rw[if_neg sK,if_neg sK,if_neg sK];refine ⟨?_,rfl,hc.2⟩;have ha:(d.ops++[o]).length<=200:=sN;have hb:runF d.safe (d.ops++[o])=some (doF d.live o).1:=by
     rw[L7,hr];show (if ((doF d.live o).2&&AP o&&Aq (doF d.live o).1)=true then some (doF d.live o).1 else none)=_;rw[hk,hf,hc.2];rfl
    show (Aq (doF d.live o).1&&Aq d.safe&&decide ((d.ops++[o]).length<=200)&&(match runF d.safe (d.ops++[o]) with | none=>false | some l=>BV l (doF d.live o).1))=true;rw[hc.2,h2,decide_eq_true ha,hb];exact GB _
   ·rw[hc] at h0;simp[hf,hk] at h0
theorem Ng {d:Dk}{o:Dp}(h:Az d=true)(hd:Dg d)(ho:Gw o∧o.d.size<=10000000)(h0:(DE d o).2=0):Dg (DE d o).1:=by
 obtain⟨_,e,hf⟩:=Jw h h0;obtain⟨_,_,h3⟩:=BR h;rw[e];refine ⟨⟨?_,Kl (BR h).1 ho.1 ho.2⟩,hd.safe,?_,fun p hp=>?_⟩
 ·have:=(Ba hf).1;show (doF d.live o).1.length<=_;omega
 ·show (d.ops++[o]).length<=_;simp;omega
 ·rcases Zs.1 hp with hp | hp
  ·exact hd.ops.2 p hp
  ·simp at hp;subst hp;exact ho
theorem GJ.at {B0:Nat}{w:World}{v:Value}{d:Dk}(h:GJ B0 w v d):Bv w v d:=by
 obtain⟨la,ln,lc,sa,sn,sc,oa,on,oc,hv,h1,h2,h3,_⟩:=h;exact⟨la,ln,lc,sa,sn,sc,oa,on,oc,hv,h1,h2,h3⟩
theorem StF.at {B:Nat}{w:World}{v:Value}{s:Sr}(h:StF B w v s)(hb:1<=B):StA w v s:=by
 obtain⟨la,ln,lc,sa,sn,sc,oa,on,oc,ea,en,ec,va,vn,vc,ra,rn,rc,ta,tn,tc,hv,h1,h2⟩:=h;exact⟨la,ln,lc,sa,sn,sc,oa,on,oc,ea,en,ec,va,vn,vc,ra,rn,rc,ta,tn,tc,hv,h1.at,h2.mono hb⟩
theorem Rf {fn:Func}{Q:Ending->World->Prop}{u:World}{a:Act}{g:Nat}{p:Tmp}{z0 z1 z2 z3 z4 z5 z6 z7 z8 z9 x0 x1 x2 x3 x4 x5 x6 x7 x8 x9:Value}(hfn:fn.results=#[.cell p 45])(D:Blk u g #[z0,z1,z2,z3,z4,z5,z6,z7,z8,z9] 45)(hd:a.defers=[])(hp:a.tmps.getD p undef=.pointer (some ⟨g,0,none⟩))(hQ:∀ W,u.grownBy W (some g)->Q (.returned (.agg #[x0,x1,x2,x3,x4,x5,x6,x7,x8,x9])) W) :
  bodyPost prog fn Q .ret a ((((((((((u.setCell ⟨g,0,none⟩ x0).setCell ⟨g,1,none⟩ x1).setCell ⟨g,2,none⟩ x2).setCell ⟨g,3,none⟩ x3).setCell ⟨g,4,none⟩ x4).setCell ⟨g,5,none⟩ x5).setCell ⟨g,6,none⟩ x6).setCell ⟨g,7,none⟩ x7).setCell ⟨g,8,none⟩ x8).setCell ⟨g,9,none⟩ x9):=by
 have E:=CU D x0 x1 x2 x3 x4 x5 x6 x7 x8 x9;have hg:=B2 u g x0 x1 x2 x3 x4 x5 x6 x7 x8 x9;change bodyPost _ _ _ _ _ (Ep u g x0 x1 x2 x3 x4 x5 x6 x7 x8 x9);generalize Ep u g x0 x1 x2 x3 x4 x5 x6 x7 x8 x9=W8 at *;exact YW (results_cell_row hfn _ W8 g _ _ _ _ hp E underlying45 rfl sI) hd (hQ W8 hg)
theorem k10 {u:World}{b:Nat}{z0 z1 z2 z3 z4 z5 z6 z7 z8 z9:Value}(h:Blk u b #[z0,z1,z2,z3,z4,z5,z6,z7,z8,z9] 45):K10 u b z0 z1 z2 z3 z4 z5 z6 z7 z8 z9:=⟨h,Dd h⟩
def Vb (W:World)(d:Dk)(m:Int)(x:Nat->Value)(u:World):Prop:=∃ ob la ln lc sa sn sc oa on oc,x 3=.pointer (some ⟨ob,0,none⟩)∧W.heap.size<=ob∧Blk u ob #[.slice la ln lc,.slice sa sn sc,.slice oa on oc,.int .i64 0,.int .i64 0,.slice none 0 0,.slice none 0 0,.slice none 0 0,.slice none 0 0,.int .i64 m] 45∧A5 W.heap.size u (.agg #[.slice la ln lc,.slice sa sn sc,.slice oa on oc]) d∧Below W.heap.size W u
theorem FK (B:Nat)(w:World):AC B w (.agg #[.int .i64 0,.int .i64 0,.slice none 0 0,.slice none 0 0,.slice none 0 0,.slice none 0 0]) Ao:=by
 have h1:Hd B none 0 0:=⟨Zd _,sH,fun _=>⟨fun _=>rfl,fun _ e=>by cases e⟩⟩;have h2:Sf B w none:=fun _ _ e=>by cases e
 exact⟨none,0,0,none,0,0,none,0,0,none,0,0,rfl,⟨⟨rfl,fun i x hx=>by simp[Ao] at hx⟩,h1,h2⟩,⟨⟨rfl,fun i x hx=>by simp[Ao] at hx⟩,h1⟩,⟨⟨rfl,fun i x hx=>by simp[Ao] at hx⟩,h1,h2⟩,⟨rfl,fun i x hx=>by simp[Ao] at hx⟩,h1,h2⟩
theorem DP:A7 Ao:=by
 refine ⟨?_,?_,?_,?_,?_,?_,?_,?_⟩<;>simp[Ao,Strs,KV,Cx]
theorem U1 {u:World}{b:Nat}{t:TypeId}{z0 z1 z2 z3 z4 z5 z6 z7 z8 z9:Value}(E:Blk u b #[z0,z1,z2,z3,z4,z5,z6,z7,z8,z9] t)(y3 y4 y5 y6 y7 y8:Value):∃ U,U=((((((u.setCell ⟨b,3,none⟩ y3).setCell ⟨b,4,none⟩ y4).setCell ⟨b,5,none⟩ y5).setCell ⟨b,6,none⟩ y6).setCell ⟨b,7,none⟩ y7).setCell ⟨b,8,none⟩ y8)∧Blk U b #[z0,z1,z2,y3,y4,y5,y6,y7,y8,z9] t∧u.grownBy U (some b):=
 ⟨_,rfl,by have:=(((((E.set 3 y3).set 4 y4).set 5 y5).set 6 y6).set 7 y7).set 8 y8;simpa using this,af_ (af_ (af_ (af_ (af_ (CE u b 3 y3) 4 y4) 5 y5) 6 y6) 7 y7) 8 y8⟩
theorem A5.tyS {B:Nat}{w w':World}{v:Value}{d:Dk}{row:Option Nat}{t:TypeId}(h:A5 B w v d)(hg:w.grownBy w' row)(hr:BC w row t)(ht:t=45∨t=27:=by decide):A5 B w' v d:=by
 obtain⟨la,ln,lc,sa,sn,sc,oa,on,oc,hv,h1,h2,h3⟩:=h;rcases ht with rfl | rfl<;>exact⟨la,ln,lc,sa,sn,sc,oa,on,oc,hv,h1.ty hg hr sJ,h2.ty hg hr sJ,h3.ty hg hr sJ⟩
theorem AM.tyS {B:Nat}{w w':World}{v:Value}{p:Po}{row:Option Nat}{t:TypeId}(h:AM B w v p)(hg:w.grownBy w' row)(hr:BC w row t)(ht:t=45∨t=27:=by decide):AM B w' v p:=by
 obtain⟨ea,en,ec,va,vn,vc,ra,rn,rc,la,ln,lc,rows,hv,h1,⟨h2,h3⟩,h4,h5,h6⟩:=h;rcases ht with rfl | rfl<;>exact⟨ea,en,ec,va,vn,vc,ra,rn,rc,la,ln,lc,rows,hv,h1.ty hg hr sJ,⟨h2.ty hg hr sJ,h3.ty hg hr sJ sJ⟩,h4.ty hg hr sJ,h5.ty hg hr sJ,h6⟩
end
end Go.Proofs.YteejlahappbalaaGreatDoor
