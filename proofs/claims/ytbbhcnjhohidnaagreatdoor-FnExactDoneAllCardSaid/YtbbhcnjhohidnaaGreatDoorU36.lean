/- An op carried out upon a right pool. -/
import Derived.Stop.LaidTwo
import Derived.Test.YtbbhcnjhohidnaaGreatDoorCards
import Derived.Test.YtbbhcnjhohidnaaGreatDoorTie
import Derived.Test.YtbbhcnjhohidnaaGreatDoorU35
set_option maxHeartbeats 20000000
set_option maxRecDepth 100000
namespace Go.Proofs.YtbbhcnjhohidnaaGreatDoor
section
open Go Go.RowKit Go.BigFrame _root_.Go.Proofs.Tryz
variable{i k0 n:Nat}{a:Option Addr}{p:Po}{v:Value}{w w':World}
theorem nV_ (S:Addr->Prop)(ep:Addr)(B0:Nat)(hB0:0<B0)(v:Value)(p:Po)(o:Opr)(w:World)(h:AA B0 w v p)(hd:Ax p)(hso:Bu o)(hE:DT S ep w)(hgl:11<=w.heap.size):
  Calls prog 10 #[v,.agg #[.int .i64 o.k,.string o.vol,.string o.file,.string o.to,.string o.into,.int .i64 o.at',.int .i64 o.fr,.int .i64 o.ln,.string o.data]] w fun e w'=>(∃ v' c,e=.returned (.tuple #[v',.int .i64 c])∧c=(CN p o).1∧Bw w.heap.size w' v' (CN p o).2∧Ax (CN p o).2)∧Below w.heap.size w w':=by
 have hA:=h;obtain⟨ea,en,ec,va,vn,vc,ra,rn,rc,la,ln,lc,rfl,_⟩:=h;obtain⟨R,hR⟩:∃ R,Hid (CN p o=R):=⟨_,rfl⟩;rw[hR.out];go_enter func10,ntmps10
 go_wp2_with fail
 have hs:Below w.heap.size w (((w.alloc (.cells #[.int .i64 p.size,.int .i64 p.next,.slice ea en ec,.slice va vn vc,.slice ra rn rc,.slice la ln lc] 35)).alloc (.cells #[.int .i64 o.k,.string o.vol,.string o.file,.string o.to,.string o.into,.int .i64 o.at',.int .i64 o.fr,.int .i64 o.ln,.string o.data] 39)).alloc (.cells #[.int .i64 0,.int .i64 0,.slice none 0 0,.slice none 0 0,.slice none 0 0,.slice none 0 0] 35)):=by go_grown
 refine (ms_ S ep B0 hB0 _ p o _ (hA.below hs) hd hso (hE.below hs) (Zl hgl hs.size)).mono ?_;rintro e w1 ⟨hx,hl⟩;clear hs;have hc:Below w.heap.size w w1:=Aa (by go_grown) hl;have C:Blk w1 w.heap.size #[.int .i64 p.size,.int .i64 p.next,.slice ea en ec,.slice va vn vc,.slice ra rn rc,.slice la ln lc] 35:=(((Blk.new w _ _).alloc _).alloc _).below hl;have D:Blk w1 (w.heap.size+2) #[.int .i64 0,.int .i64 0,.slice none 0 0,.slice none 0 0,.slice none 0 0,.slice none 0 0] 35:=(Blk.new' _ _ _ _ (by simp)).below hl;have hG:w.heap.size+3<=w1.heap.size:=by have:=hl.size;simp at this;omega
 clear hl;replace hE:=hE.below hc;rcases hx with⟨hp,rfl⟩ | ⟨hp,c,a,hC,rfl,hS⟩ | ⟨hp,v',q,rows,rfl,PT,hH,hS⟩
 ·have hq:R=(1,⟨0,0,[],[],[],[]⟩):=by rw[<-hR.out];unfold CN;rw[hp];rfl
  subst hq;clear hR;have hr:=fun ob=>Ah (w:=w1) ob hE.pool;unfold Dq BJ
  go_wp2_with fail
  refine (lj_ 1 ep _).mono ?_;rintro e w2 ⟨rfl,hb⟩;have he:Below w1.heap.size w1 (w1.alloc (.cells #[.int .i64 0,.int .i64 0,.slice none 0 0,.slice none 0 0,.slice none 0 0,.slice none 0 0] 35)):=(Yg _ _).alloc (Zd _) _;replace hb:=Aa he hb;replace D:=D.below hb;have ha:=Aa hc hb;clear hr he hb;obtain⟨x0,x1,x2,x3,x4,x5⟩:=D.six';obtain⟨f0,f1,f2,f3,f4,f5⟩:=fz6 D;go_wp2;obtain⟨W8,hh,W0,hg⟩:=AT D (.int .i64 0) (.int .i64 0) (.slice none 0 0) (.slice none 0 0) (.slice none 0 0) (.slice none 0 0);rw[<-hh];clear hh;refine YW (ad_ rfl _ W8 (w.heap.size+2) _ _ _ _ _ rfl W0 underlying35 rfl (by kernel_rfl) rfl) rfl ?_;exact⟨⟨_,1,rfl,rfl,⟨[],mr_ _ _⟩,k7_⟩,ha.grown hg ha.size (fun j e=>by cases e;omega)⟩
 ·have hq:Hid (R=(c,p)):=by show _=_;rw[<-hR.out];unfold CN;rw[hp,if_pos rfl];exact hS
  clear hR hS;have hr:=fun ob=>Ah (w:=w1) ob hE.pool;unfold Dq BJ
  go_wp2_with fail
  have he:Below w1.heap.size w1 (w1.alloc (.cells #[.int .i64 0,.int .i64 0,.slice none 0 0,.slice none 0 0,.slice none 0 0,.slice none 0 0] 35)):=(Yg _ _).alloc (Zd _) _;have hw:=hE.below he;obtain⟨ca,ta,hD⟩:=hw.blks a hC;obtain⟨cb,tb,hF⟩:=hw.blk;refine (jH_ c a ep ca cb ta tb _ (hE.ne a hC) hD hF).mono ?_;rintro e w2 ⟨rfl,hb⟩;replace hb:=Aa he hb;replace C:=C.below hb;replace D:=D.below hb;replace hE:=hE.below hb;have ha:=Aa hc hb;have hI:w.heap.size+3<=w2.heap.size:=Zl hG hb.size;clear hr he hb hw hD hF hc hG
  go_wp2_with fail
  have hj:Below w2.heap.size w2 (w2.alloc (.cells #[.int .i64 0,.nilIface] 69)):=(Yg _ _).alloc (Zd _) _;have X:=Blk.new w2 #[.int .i64 0,.nilIface] 69;replace C:=C.below hj;replace D:=D.below hj;replace hE:=hE.below hj;have hf:=Aa ha hj;have hJ:=hj.size;generalize w2.alloc (.cells #[.int .i64 0,.nilIface] 69)=w3 at *;refine (qi_ c a w2.heap.size _ _ w3 hE.ty X).mono ?_;rintro e w4 ⟨rfl,X4,g4⟩;have C4:=C.grown g4 (by omega);have D4:=D.grown g4 (by omega);have hn:=hf.grown g4 hf.size (fun j e=>by cases e;omega);have hM:=g4.size;clear C D X hj ha hE;obtain⟨c0,c1,c2,c3,c4,c5⟩:=C4.six';have k0:w4.cell? ⟨w2.heap.size,0,none⟩=some (.int .i64 c):=X4.cell 0
  go_wp2_with fail
  have hB:∀ u:World,Below w4.heap.size w4 u->(u.cell? ⟨w.heap.size,0,none⟩=some (.int .i64 p.size)∧u.cell? ⟨w.heap.size,1,none⟩=some (.int .i64 p.next)∧u.cell? ⟨w.heap.size,2,none⟩=some (.slice ea en ec)∧u.cell? ⟨w.heap.size,3,none⟩=some (.slice va vn vc)∧u.cell? ⟨w.heap.size,4,none⟩=some (.slice ra rn rc)∧u.cell? ⟨w.heap.size,5,none⟩=some (.slice la ln lc))∧u.cell? ⟨w2.heap.size,0,none⟩=some (.int .i64 c):=fun u hu=>⟨(C4.below hu).six',Ab hu k0⟩;clear c0 c1 c2 c3 c4 c5;have hL:(fun u:World=>(u.cell? ⟨w.heap.size,0,none⟩=some (.int .i64 p.size)∧u.cell? ⟨w.heap.size,1,none⟩=some (.int .i64 p.next)∧u.cell? ⟨w.heap.size,2,none⟩=some (.slice ea en ec)∧u.cell? ⟨w.heap.size,3,none⟩=some (.slice va vn vc)∧u.cell? ⟨w.heap.size,4,none⟩=some (.slice ra rn rc)∧u.cell? ⟨w.heap.size,5,none⟩=some (.slice la ln lc))∧u.cell? ⟨w2.heap.size,0,none⟩=some (.int .i64 c)) w4.drew:=(hB _ (Yg _ _).drew);refine aC_ (S:=(fun u:World=>(u.cell? ⟨w.heap.size,0,none⟩=some (.int .i64 p.size)∧u.cell? ⟨w.heap.size,1,none⟩=some (.int .i64 p.next)∧u.cell? ⟨w.heap.size,2,none⟩=some (.slice ea en ec)∧u.cell? ⟨w.heap.size,3,none⟩=some (.slice va vn vc)∧u.cell? ⟨w.heap.size,4,none⟩=some (.slice ra rn rc)∧u.cell? ⟨w.heap.size,5,none⟩=some (.slice la ln lc))∧u.cell? ⟨w2.heap.size,0,none⟩=some (.int .i64 c))) 6 (by kernel_rfl) rfl ?_;refine tk 0 ?_ (hy:=by intro u hu;obtain⟨⟨u0,u1,u2,u3,u4,u5⟩,u6⟩:=hu;go_simp<;>with_reducible rfl);refine tk 2 ?_;refine tk 3 ?_ (hy:=by intro u hu;obtain⟨⟨u0,u1,u2,u3,u4,u5⟩,u6⟩:=hu;go_simp<;>with_reducible rfl);refine A7 (i:=1) (by kernel_rfl) rfl (fun K hK=>?_);go_simp;refine (ff_ B0 hB0 _ p w4.drew (hA.below hn.drew) (m2_ hd)).mono ?_;rintro e w5 ⟨⟨v',rows,rfl,PU⟩,hv⟩;have hk:Below w4.heap.size w4 w5:=Aa (Yg _ w4).drew hv;have PT:=PU;obtain⟨ea',en',ec',va',vn',vc',ra',rn',rc',la',ln',lc',rfl,_⟩:=PU;have D5:=D4.below hk;have ho:=Aa hn hk;have hN:=hk.size;dsimp only;refine hK.out _ _ (hB _ hk) (fun hHeld=>?_);clear hK K
  try simp only[Act.put,lsA,lsB,lsC]
  obtain⟨x0,x1,x2,x3,x4,x5⟩:=D5.six';obtain⟨f0,f1,f2,f3,f4,f5⟩:=fz6 D5;refine A7 (i:=4) (by kernel_rfl) rfl (fun K hK=>?_);go_simp;obtain⟨W8,hh,W0,hg⟩:=AT D5 (.int .i64 p.size) (.int .i64 p.next) (.slice ea' en' ec') (.slice va' vn' vc') (.slice ra' rn' rc') (.slice la' ln' lc');rw[<-hh];clear hh;have PF:=(PT.tyP hg (aa_ D5)).mono (show w.heap.size<=w4.heap.size by omega);have C6:=(C4.below hk).grown hg (by omega);have X6:=(X4.below hk).grown hg (by omega);refine hK.out _ _ ⟨C6.six',X6.cell 0⟩ (fun hHeld=>?_);clear hK K
  try simp only[Act.put,lsA,lsB,lsC]
  refine tk 5 ?_;refine wpAnyH_done (by kernel_rfl) ?_ _;go_wp2;refine YW (ad_ rfl _ W8 (w.heap.size+2) _ _ _ _ _ rfl W0 underlying35 rfl (by kernel_rfl) rfl) rfl ?_;rw[hq.out];exact⟨⟨_,c,rfl,rfl,⟨_,PF⟩,hd⟩,ho.grown hg ho.size (fun j e=>by cases e;omega)⟩
 ·have hq:Hid (R=(0,q)):=by show _=_;rw[<-hR.out];unfold CN;rw[hp,if_pos rfl];exact hS
  clear hR hS;have hz:=PT;obtain⟨ea',en',ec',va',vn',vc',ra',rn',rc',la',ln',lc',rfl,_⟩:=PT;have hr:=fun ob=>Ah (w:=w1) ob hE.pool
  go_wp2_with fail
  have he:Below w1.heap.size w1 (w1.alloc (.cells #[.int .i64 q.size,.int .i64 q.next,.slice ea' en' ec',.slice va' vn' vc',.slice ra' rn' rc',.slice la' ln' lc'] 35)):=(Yg _ _).alloc (Zd _) _;have Q:=Blk.new w1 #[.int .i64 q.size,.int .i64 q.next,.slice ea' en' ec',.slice va' vn' vc',.slice ra' rn' rc',.slice la' ln' lc'] 35;replace D:=D.below he;have ht:=hz.below he;have ha:=Aa hc he;have hI:=he.size;clear hr hz hc;generalize w1.alloc (.cells #[.int .i64 q.size,.int .i64 q.next,.slice ea' en' ec',.slice va' vn' vc',.slice ra' rn' rc',.slice la' ln' lc'] 35)=w2 at *;refine (qg_ ep w2).mono ?_;rintro e w3 ⟨rfl,rfl⟩
  go_wp2_with fail
  have hm:Below w3.heap.size w3 (w3.alloc (.cells #[.int .i64 0,.nilIface] 69)):=(Yg _ _).alloc (Zd _) _;replace D:=D.below hm;replace Q:=Q.below hm;replace ht:=ht.below hm;have hf:=Aa ha hm;have hJ:=hm.size;generalize w3.alloc (.cells #[.int .i64 0,.nilIface] 69)=w4 at *;refine (qh_ _ w4).mono ?_;rintro e w5 ⟨rfl,rfl⟩;obtain⟨y0,y1,y2,y3,y4,y5⟩:=Q.six';obtain⟨x0,x1,x2,x3,x4,x5⟩:=D.six';obtain⟨f0,f1,f2,f3,f4,f5⟩:=fz6 D;go_wp2;obtain⟨W8,hh,W0,hg⟩:=AT D (.int .i64 q.size) (.int .i64 q.next) (.slice ea' en' ec') (.slice va' vn' vc') (.slice ra' rn' rc') (.slice la' ln' lc');have PF:=(ht.tyP hg (aa_ D)).mono (show w.heap.size<=_ by simp;omega);rw[<-hh];clear hh;refine YW (ad_ rfl _ W8 (w.heap.size+2) _ _ _ _ _ rfl W0 underlying35 rfl (by kernel_rfl) rfl) rfl ?_;rw[hq.out];exact⟨⟨_,0,rfl,rfl,⟨_,PF⟩,hH⟩,hf.grown hg hf.size (fun j e=>by cases e;omega)⟩
structure IQ where
 nm:ByteArray
 a:Option Addr
 n:Nat
 c:Nat
end
section
open Go Go.RowKit Go.BigFrame _root_.Go.Proofs.Tryz
variable{n:Nat}{a:Option Addr}
variable{irs:List IQ}
structure VQ where
 id:Int
 nm:ByteArray
 fx:Bool
 a:Option Addr
 n:Nat
 c:Nat
 irs:List IQ
end
section
open Go Go.RowKit Go.BigFrame _root_.Go.Proofs.Tryz
variable{α β:Type}{ad:Addr}{L:List Nat}{B b i k0 n:Nat}{a:Option Addr}{row:Option Nat}{p:Po}{v:Value}{w w':World}{l:List α}{m:List β}
variable{irs:List IQ}
variable{x:IQ}
variable{r:VQ}
variable{vr:List VQ}
def IQ.cs (x:IQ):List Value:=[.string x.nm,.slice x.a x.n x.c]
def VQ.cs (x:VQ):List Value:=[.int .i64 x.id,.string x.nm,.bool x.fx,.slice x.a x.n x.c]
inductive Al2 {α β:Type} (R:α->β->Prop):List α->List β->Prop
 |nil:Al2 R [] []
 |cons {x:α} {y:β} {l:List α} {m:List β}:R x y->Al2 R l m->Al2 R (x::l) (y::m)
theorem Al2.len {R:α->β->Prop}(h:Al2 R l m):l.length=m.length:=by
 induction h with
 |nil=>rfl
 |cons _ _ ih=>simp[ih]
theorem Al2.imp {R S:α->β->Prop}(h:Al2 R l m)(hS:∀ x∈l,∀ y,R x y->S x y):Al2 S l m:=by
 induction h with
 |nil=>exact .nil
 |cons hr _ ih=>exact .cons (hS _ (by simp) _ hr) (ih fun x hx=>hS x (by simp[hx]))
theorem Al2.snoc {R:α->β->Prop}{x:α}{y:β}(h:Al2 R l m)(hr:R x y):Al2 R (l++[x]) (m++[y]):=by
 induction h with
 |nil=>exact .cons hr .nil
 |cons h1 _ ih=>exact .cons h1 ih
theorem Al2.at {R:α->β->Prop}(h:Al2 R l m):∀ {i:Nat} {y:β},m[i]?=some y->∃ x,l[i]?=some x∧R x y:=by
 induction h with
 |nil=>intro i y hy;simp at hy
 |cons hr _ ih=>
  intro i y hy
  cases i with
  |zero=>obtain rfl:=Zi hy;exact⟨_,rfl,hr⟩
  |succ i=>exact ih hy
abbrev tI:TypeId:=156
abbrev tV:TypeId:=97
abbrev tP:TypeId:=162
abbrev tE:TypeId:=103
abbrev tC:TypeId:=107
structure ItR (w:World)(B:Nat)(r:IQ)(x:It):Prop where
 nm:r.nm=x.nm
 ps:Ac Pt.cs 3 tP w B r.a r.n r.c x.ps
structure VoR (w:World)(B:Nat)(r:VQ)(v:Vo):Prop where
 id:r.id=v.id
 nm:r.nm=v.nm
 fx:r.fx=v.fx
 rows:Ac IQ.cs 2 tI w B r.a r.n r.c r.irs
 its:Al2 (ItR w B) r.irs v.its
def AC (a:Option Addr):Option Nat:=a.map (·.block)
def DI (l:List VQ):List Nat:=l.filterMap fun r=>AC r.a
def Da (l:List VQ):List Nat:=l.flatMap fun r=>r.irs.filterMap fun x=>AC x.a
theorem ItR.below {r:IQ}{x:It}(h:ItR w B r x)(hb:Below w.heap.size w w'):ItR w' B r x:=⟨h.nm,h.ps.below hb⟩
theorem VoR.below {v:Vo}(h:VoR w B r v)(hb:Below w.heap.size w w'):VoR w' B r v:=⟨h.id,h.nm,h.fx,h.rows.below hb,h.its.imp fun _ _ _ h=>h.below hb⟩
theorem ItR.ty {t:TypeId}{r:IQ}{x:It}(h:ItR w B r x)(hg:w.grownBy w' row)(hr:Bt w row t)(ht:tP≠t):ItR w' B r x:=⟨h.nm,h.ps.ty hg hr ht⟩
theorem VoR.ty {t:TypeId}{v:Vo}(h:VoR w B r v)(hg:w.grownBy w' row)(hr:Bt w row t)(h1:tI≠t)(h2:tP≠t):VoR w' B r v:=⟨h.id,h.nm,h.fx,h.rows.ty hg hr h1,h.its.imp fun _ _ _ h=>h.ty hg hr h2⟩
theorem o4_ (l:List VQ)(r:VQ):DI (l++[r])=DI l++(AC r.a).toList:=by
 unfold DI;rw[List.filterMap_append]
 cases h:AC r.a<;>simp[h]
theorem o5_ (l:List VQ)(r:VQ):Da (l++[r])=Da l++r.irs.filterMap fun x=>AC x.a:=by
 unfold Da;rw[ZQ];simp
theorem o6_ (l:List IQ)(r:IQ):(l++[r]).filterMap (fun x=>AC x.a)=l.filterMap (fun x=>AC x.a)++(AC r.a).toList:=by
 rw[List.filterMap_append]
 cases h:AC r.a<;>simp[h]
theorem o7_ {l:List VQ}(hr:r∈l)(ha:r.a=some ad):ad.block∈DI l:=by
 unfold DI;exact YQ.2 ⟨r,hr,by simp[AC,ha]⟩
theorem o8_ {l:List VQ}(hr:r∈l)(hx:x∈r.irs)(ha:x.a=some ad):ad.block∈Da l:=by
 unfold Da;exact ZL.2 ⟨r,hr,YQ.2 ⟨x,hx,by simp[AC,ha]⟩⟩
def MkP (w:World)(a:Option Addr)(n k0:Nat):Prop:=∀ j,j<n->∃ b,a=some ⟨b,0,none⟩∧w.cell? ⟨b,j*3,none⟩=some (.int .i64 ((k0+3*j:Nat):Int))∧w.cell? ⟨b,j*3+1,none⟩=some (.int .i64 ((k0+3*j+1:Nat):Int))∧w.cell? ⟨b,j*3+2,none⟩=some (.int .i64 ((k0+3*j+2:Nat):Int))
theorem MkP.below (h:MkP w a n k0)(hb:Below w.heap.size w w'):MkP w' a n k0:=fun j hj=>by
 obtain⟨b,ha,c0,c1,c2⟩:=h j hj;exact⟨b,ha,Ab hb c0,Ab hb c1,Ab hb c2⟩
theorem MkP.off (h:MkP w a n k0)(hg:w.grownBy w' row)(hr:0<n->∀ ad,a=some ad->some ad.block≠row):MkP w' a n k0:=fun j hj=>by
 obtain⟨b,ha,c0,c1,c2⟩:=h j hj;have hb:=hr (by omega) _ ha;exact⟨b,ha,hg.cell c0 hb,hg.cell c1 hb,hg.cell c2 hb⟩
theorem ll_ (b n cap k0:Nat)(c:Array Value)(w:World)(hb:Blk w b c tP)(hsz:n*3<=c.size)(hn:n<=4194304)(hk0:1<=k0∧k0<=50000000):
  Calls prog 139 #[.slice (some ⟨b,0,none⟩) n cap,.int .i64 ((k0:Nat):Int)] w fun e w'=>e=.returned (.int .i64 ((k0+3*n:Nat):Int))∧MkP w' (some ⟨b,0,none⟩) n k0∧w.grownBy w' (some b):=by
 go_enter func139,ntmps139
 go_wp2_with fail
 go_loopw [1,5] (fun kk ix wr=>∃ (k:Nat) (c':Array Value),k<=n∧ix=.int .i64 k∧kk=.int .i64 ((k0+3*k:Nat):Int)∧Blk wr b c' tP∧Hid (c'.size=c.size)∧Hid (∀ j,j<k->c'[j*3]?=some (.int .i64 ((k0+3*j:Nat):Int))∧c'[j*3+1]?=some (.int .i64 ((k0+3*j+1:Nat):Int))∧c'[j*3+2]?=some (.int .i64 ((k0+3*j+2:Nat):Int)))∧w.grownBy wr (some b)) (fun _ ix _=>n-(intOf ix).toNat)
 case atStart=>exact⟨0,c,Zg _,rfl,rfl,hb,rfl,fun j hj=>(by omega),Yh _ _⟩
 case round=>
  obtain⟨k,c',hk,rfl,rfl,ha,hf,hh,hg⟩:=hrel;by_cases hlt:k<n
  ·have hs:k*3+2<c'.size:=by rw[hf.out];omega
   have ht:(k:Int)<n:=by omega
   have hu:(0:Int)<=k:=by omega
   obtain⟨KK,he⟩:∃ KK:Int,KK=((k0+3*k:Nat):Int):=⟨_,rfl⟩;have hc:Hid (KK=((k0+3*k:Nat):Int)):=he;rw[<-he];have hq:1<=KK:=by omega
   have hr:KK<=70000000:=by omega
   clear he;obtain⟨v0,y0⟩:=ha.has (i:=k*3) (by first | omega | (simp;omega));have f0:=ha.frozen (k*3);have hm:Hid (Value.int .i64 (KK)=.int .i64 ((k0+3*k:Nat):Int)):=by show Value.int .i64 _=Value.int .i64 _;first | (rw[hc.out];done) | (have:=hc.out;congr 1;omega)
   obtain⟨v1,y1⟩:=ha.has (i:=k*3+1) (by first | omega | (simp;omega));have f1:=ha.frozen (k*3+1);have ho:Hid (Value.int .i64 (KK+1)=.int .i64 ((k0+3*k+1:Nat):Int)):=by show Value.int .i64 _=Value.int .i64 _;first | (rw[hc.out];done) | (have:=hc.out;congr 1;omega)
   obtain⟨v2,y2⟩:=ha.has (i:=k*3+2) (by first | omega | (simp;omega));have f2:=ha.frozen (k*3+2);have hp:Hid (Value.int .i64 (KK+1+1)=.int .i64 ((k0+3*k+2:Nat):Int)):=by show Value.int .i64 _=Value.int .i64 _;first | (rw[hc.out];done) | (have:=hc.out;congr 1;omega)
   go_wp2;go_roundw
   case rel=>
    refine⟨k+1,_,by omega,by go_num,by (show Value.int IntKind.i64 _=Value.int IntKind.i64 _;have:=hc.out;congr 1;omega),(((ha).set (k*3) (.int .i64 (KK))).set (k*3+1) (.int .i64 (KK+1))).set (k*3+2) (.int .i64 (KK+1+1)),by show _=_;simp[hf.out],?_,af_ (af_ (af_ (hg) (k*3) (.int .i64 (KK))) (k*3+1) (.int .i64 (KK+1))) (k*3+2) (.int .i64 (KK+1+1))⟩;intro j hj;have hl:=hf.out;by_cases hjk:j=k
    ·subst hjk;refine⟨?_,?_,?_⟩
     ·rw[Za (by omega),Za (by omega),Zh (by first | omega | (simp;omega))];rw[hm.out]
     ·rw[Za (by omega),Zh (by first | omega | (simp;omega))];rw[ho.out]
     ·rw[Zh (by first | omega | (simp;omega))];rw[hp.out]
    ·obtain⟨r0,r1,r2⟩:=hh.out j (by omega);refine⟨?_,?_,?_⟩
     all_goals (rw[Za (by omega),Za (by omega),Za (by omega)];assumption)
   case measure=>simp[intOf];omega
  ·obtain rfl:k=n:=by omega
   go_wp2;go_returns;go_light
   exact⟨rfl,fun j hj=>(by
    obtain⟨r0,r1,r2⟩:=hh.out j hj;exact⟨b,rfl,by rw[ha.cell];exact r0,by rw[ha.cell];exact r1,by rw[ha.cell];exact r2⟩),hg⟩
theorem FX (B:Nat)(a:Option Addr)(n cap k0:Nat)(l:List Pt)(w:World)(h:Ac Pt.cs 3 tP w B a n cap l)(hn:n<=4194304)(hk0:1<=k0∧k0<=50000000):
  Calls prog 139 #[.slice a n cap,.int .i64 ((k0:Nat):Int)] w fun e w'=>e=.returned (.int .i64 ((k0+3*n:Nat):Int))∧MkP w' a n k0∧w.grownBy w' (Value.ownBlock (.slice a n cap)):=by
 rcases h.own with⟨rfl,rfl,rfl⟩ | ⟨b,rfl,_,ha,_,c,hc,hb,_⟩
 ·go_enter func139,ntmps139
  go_wp2_with fail
  go_rounds 1
  go_returns;exact⟨rfl,fun j hj=>(by omega),Yh _ _⟩
 ·exact ll_ b n cap k0 c w hc (by rw[hb];exact ZS _ ha) hn hk0
theorem Gt (a:Option Addr)(n cap k0:Nat)(w:World)(h:MkP w a n k0)(hn:n<=4194304)(hk0:1<=k0∧k0<=50000000):
  Calls prog 140 #[.slice a n cap,.int .i64 ((k0:Nat):Int)] w fun e w'=>e=.returned (.int .i64 ((k0+3*n:Nat):Int))∧Below w.heap.size w w':=by
 go_enter func140,ntmps140
 go_wp2_with fail
 go_loopw [1,5] (fun kk ix wr=>∃ (k:Nat),k<=n∧ix=.int .i64 k∧kk=.int .i64 ((k0+3*k:Nat):Int)∧Below w.heap.size w wr) (fun _ ix _=>n-(intOf ix).toNat)
 case atStart=>exact⟨0,Zg _,rfl,rfl,Yg _ _⟩
 case round=>
  obtain⟨k,hk,rfl,rfl,hB⟩:=hrel;by_cases hlt:k<n
  ·obtain⟨b,rfl,c0,c1,c2⟩:=h k hlt;have hf:(k:Int)<n:=by omega
   have hg:(0:Int)<=k:=by omega
   obtain⟨KK,ha⟩:∃ KK:Int,KK=((k0+3*k:Nat):Int):=⟨_,rfl⟩;have hb:Hid (KK=((k0+3*k:Nat):Int)):=ha;rw[<-ha];have hc:1<=KK:=by omega
   have he:KK<=70000000:=by omega
   rw[show ((k0+3*k:Nat):Int)=KK by omega] at c0;have e0:(KK != KK)=false:=by simp
   rw[show ((k0+3*k+1:Nat):Int)=KK+1 by omega] at c1;have e1:(KK+1 != KK+1)=false:=by simp
   rw[show ((k0+3*k+2:Nat):Int)=KK+1+1 by omega] at c2;have e2:(KK+1+1 != KK+1+1)=false:=by simp
   clear ha;replace c0:=Ab hB c0;replace c1:=Ab hB c1;replace c2:=Ab hB c2;go_wp2;go_roundw
   case rel=>exact⟨k+1,by omega,by go_num,by have:=hb.out;show Value.int IntKind.i64 _=Value.int IntKind.i64 _;congr 1;omega,hB⟩
   case measure=>simp[intOf];omega
  ·obtain rfl:k=n:=by omega
   go_wp2;go_returns;exact⟨rfl,hB⟩
def MkE (w:World)(a:Option Addr)(n k0:Nat):Prop:=∀ j,j<n->∃ b,a=some ⟨b,0,none⟩∧w.cell? ⟨b,j*2,none⟩=some (.int .i64 ((k0+2*j:Nat):Int))∧w.cell? ⟨b,j*2+1,none⟩=some (.string (Bf (k0+2*j+1)))
theorem MkE.below (h:MkE w a n k0)(hb:Below w.heap.size w w'):MkE w' a n k0:=fun j hj=>by
 obtain⟨b,ha,c0,c1⟩:=h j hj;exact⟨b,ha,Ab hb c0,Ab hb c1⟩
theorem MkE.off (h:MkE w a n k0)(hg:w.grownBy w' row)(hr:0<n->∀ ad,a=some ad->some ad.block≠row):MkE w' a n k0:=fun j hj=>by
 obtain⟨b,ha,c0,c1⟩:=h j hj;have hb:=hr (by omega) _ ha;exact⟨b,ha,hg.cell c0 hb,hg.cell c1 hb⟩
theorem lm_ (b n cap k0:Nat)(c:Array Value)(w:World)(hb:Blk w b c tE)(hsz:n*2<=c.size)(hn:n<=4194304)(hk0:1<=k0∧k0<=50000000):
  Calls prog 38 #[.slice (some ⟨b,0,none⟩) n cap,.int .i64 ((k0:Nat):Int)] w fun e w'=>e=.returned (.int .i64 ((k0+2*n:Nat):Int))∧MkE w' (some ⟨b,0,none⟩) n k0∧w.grownBy w' (some b):=by
 go_enter func38,ntmps38
 go_wp2_with fail
 go_loopw [1,5] (fun kk ix wr=>∃ (k:Nat) (c':Array Value),k<=n∧ix=.int .i64 k∧kk=.int .i64 ((k0+2*k:Nat):Int)∧Blk wr b c' tE∧Hid (c'.size=c.size)∧Hid (∀ j,j<k->c'[j*2]?=some (.int .i64 ((k0+2*j:Nat):Int))∧c'[j*2+1]?=some (.string (Bf (k0+2*j+1))))∧w.grownBy wr (some b)) (fun _ ix _=>n-(intOf ix).toNat)
 case atStart=>exact⟨0,c,Zg _,rfl,rfl,hb,rfl,fun j hj=>(by omega),Yh _ _⟩
 case round=>
  obtain⟨k,c',hk,rfl,rfl,ha,hf,hl,hg⟩:=hrel;by_cases hlt:k<n
  ·have hr:k*2+1<c'.size:=by rw[hf.out];omega
   have hs:(k:Int)<n:=by omega
   have ht:(0:Int)<=k:=by omega
   obtain⟨KK,he⟩:∃ KK:Int,KK=((k0+2*k:Nat):Int):=⟨_,rfl⟩;have hc:Hid (KK=((k0+2*k:Nat):Int)):=he;rw[<-he];have hp:1<=KK:=by omega
   have hq:KK<=70000000:=by omega
   clear he;obtain⟨v0,y0⟩:=ha.has (i:=k*2) (by first | omega | (simp;omega));have f0:=ha.frozen (k*2);have ho:Hid (Value.int .i64 (KK)=.int .i64 ((k0+2*k:Nat):Int)):=by show Value.int .i64 _=Value.int .i64 _;first | (rw[hc.out];done) | (have:=hc.out;congr 1;omega)
   go_wp2_with fail
   refine (aR_ (k0+2*k+1) _ (by have:=hc.out;omega) _ (by omega) (by omega)).mono ?_;rintro e w2 ⟨rfl,hh⟩;have b2:=((ha).set (k*2) (.int .i64 (KK))).below hh;have g2:=au_ (af_ (hg) (k*2) (.int .i64 (KK))) hh;obtain⟨v1,y1⟩:=b2.has (i:=k*2+1) (by first | omega | (simp;omega));have f1:=b2.frozen (k*2+1);go_wp2;go_roundw
   case rel=>
    refine⟨k+1,_,by omega,by go_num,by (show Value.int IntKind.i64 _=Value.int IntKind.i64 _;have:=hc.out;congr 1;omega),b2.set (k*2+1) (.string (Bf (k0+2*k+1))),by show _=_;simp[hf.out],?_,af_ g2 (k*2+1) (.string (Bf (k0+2*k+1)))⟩;intro j hj;have hm:=hf.out;by_cases hjk:j=k
    ·subst hjk;refine⟨?_,?_⟩
     ·rw[Za (by omega),Zh (by first | omega | (simp;omega))];rw[ho.out]
     ·rw[Zh (by first | omega | (simp;omega))]
    ·obtain⟨r0,r1⟩:=hl.out j (by omega);refine⟨?_,?_⟩
     all_goals (rw[Za (by omega),Za (by omega)];assumption)
   case measure=>simp[intOf];omega
  ·obtain rfl:k=n:=by omega
   go_wp2;go_returns;go_light
   exact⟨rfl,fun j hj=>(by
    obtain⟨r0,r1⟩:=hl.out j hj;exact⟨b,rfl,by rw[ha.cell];exact r0,by rw[ha.cell];exact r1⟩),hg⟩
theorem F7 (B:Nat)(a:Option Addr)(n cap k0:Nat)(l:List Ex)(w:World)(h:Ac Ex.cs 2 tE w B a n cap l)(hn:n<=4194304)(hk0:1<=k0∧k0<=50000000):
  Calls prog 38 #[.slice a n cap,.int .i64 ((k0:Nat):Int)] w fun e w'=>e=.returned (.int .i64 ((k0+2*n:Nat):Int))∧MkE w' a n k0∧w.grownBy w' (Value.ownBlock (.slice a n cap)):=by
 rcases h.own with⟨rfl,rfl,rfl⟩ | ⟨b,rfl,_,ha,_,c,hc,hb,_⟩
 ·go_enter func38,ntmps38
  go_wp2_with fail
  go_rounds 1
  go_returns;exact⟨rfl,fun j hj=>(by omega),Yh _ _⟩
 ·exact lm_ b n cap k0 c w hc (by rw[hb];exact ZS _ ha) hn hk0
theorem Gd (a:Option Addr)(n cap k0:Nat)(w:World)(h:MkE w a n k0)(hn:n<=4194304)(hk0:1<=k0∧k0<=50000000):
  Calls prog 41 #[.slice a n cap,.int .i64 ((k0:Nat):Int)] w fun e w'=>e=.returned (.int .i64 ((k0+2*n:Nat):Int))∧Below w.heap.size w w':=by
 go_enter func41,ntmps41
 go_wp2_with fail
 go_loopw [1,5] (fun kk ix wr=>∃ (k:Nat),k<=n∧ix=.int .i64 k∧kk=.int .i64 ((k0+2*k:Nat):Int)∧Below w.heap.size w wr) (fun _ ix _=>n-(intOf ix).toNat)
 case atStart=>exact⟨0,Zg _,rfl,rfl,Yg _ _⟩
 case round=>
  obtain⟨k,hk,rfl,rfl,hB⟩:=hrel;by_cases hlt:k<n
  ·obtain⟨b,rfl,c0,c1⟩:=h k hlt;have hj:(k:Int)<n:=by omega
   have hl:(0:Int)<=k:=by omega
   obtain⟨KK,ha⟩:∃ KK:Int,KK=((k0+2*k:Nat):Int):=⟨_,rfl⟩;have hb:Hid (KK=((k0+2*k:Nat):Int)):=ha;rw[<-ha];have hg:1<=KK:=by omega
   have hh:KK<=70000000:=by omega
   rw[show ((k0+2*k:Nat):Int)=KK by omega] at c0;have e0:(KK != KK)=false:=by simp
   clear ha;replace c0:=Ab hB c0;replace c1:=Ab hB c1;have e1:(!((Bf (k0+2*k+1)).toList==(Bf (k0+2*k+1)).toList))=false:=by simp
   go_wp2_with fail
   have g1:=Ad c1;have hf:=aA_ wr;refine ab_ (by kernel_rfl) (by kernel_rfl) ?_
   repeat (go_big_quiet_step (first | (go_at_call 47;exact an_ (aR_ (k0+2*k+1) (KK+1) (by have:=hb.out;omega) _ (by omega) (by omega)))))
   refine wpQuiet_nil ?_;intro w3 hx;have hc:=ah_ hx;clear hx g1 hf e1;have he:=Aa hB hc;go_wp2;go_roundw
   case rel=>exact⟨k+1,by omega,by go_num,by have:=hb.out;show Value.int IntKind.i64 _=Value.int IntKind.i64 _;congr 1;omega,he⟩
   case measure=>simp[intOf];omega
  ·obtain rfl:k=n:=by omega
   go_wp2;go_returns;exact⟨rfl,hB⟩
def MkC (w:World)(a:Option Addr)(n k0:Nat):Prop:=∀ j,j<n->∃ b,a=some ⟨b,0,none⟩∧w.cell? ⟨b,j*4,none⟩=some (.int .i64 ((k0+4*j:Nat):Int))∧w.cell? ⟨b,j*4+1,none⟩=some (.int .i64 ((k0+4*j+1:Nat):Int))∧w.cell? ⟨b,j*4+2,none⟩=some (.string (Bf (k0+4*j+2)))∧w.cell? ⟨b,j*4+3,none⟩=some (.int .i64 ((k0+4*j+3:Nat):Int))
theorem MkC.below (h:MkC w a n k0)(hb:Below w.heap.size w w'):MkC w' a n k0:=fun j hj=>by
 obtain⟨b,ha,c0,c1,c2,c3⟩:=h j hj;exact⟨b,ha,Ab hb c0,Ab hb c1,Ab hb c2,Ab hb c3⟩
theorem MkC.off (h:MkC w a n k0)(hg:w.grownBy w' row)(hr:0<n->∀ ad,a=some ad->some ad.block≠row):MkC w' a n k0:=fun j hj=>by
 obtain⟨b,ha,c0,c1,c2,c3⟩:=h j hj;have hb:=hr (by omega) _ ha;exact⟨b,ha,hg.cell c0 hb,hg.cell c1 hb,hg.cell c2 hb,hg.cell c3 hb⟩
theorem ln_ (b n cap k0:Nat)(c:Array Value)(w:World)(hb:Blk w b c tC)(hsz:n*4<=c.size)(hn:n<=4194304)(hk0:1<=k0∧k0<=50000000):
  Calls prog 40 #[.slice (some ⟨b,0,none⟩) n cap,.int .i64 ((k0:Nat):Int)] w fun e w'=>e=.returned (.int .i64 ((k0+4*n:Nat):Int))∧MkC w' (some ⟨b,0,none⟩) n k0∧w.grownBy w' (some b):=by
 go_enter func40,ntmps40
 go_wp2_with fail
 go_loopw [1,5] (fun kk ix wr=>∃ (k:Nat) (c':Array Value),k<=n∧ix=.int .i64 k∧kk=.int .i64 ((k0+4*k:Nat):Int)∧Blk wr b c' tC∧Hid (c'.size=c.size)∧Hid (∀ j,j<k->c'[j*4]?=some (.int .i64 ((k0+4*j:Nat):Int))∧c'[j*4+1]?=some (.int .i64 ((k0+4*j+1:Nat):Int))∧c'[j*4+2]?=some (.string (Bf (k0+4*j+2)))∧c'[j*4+3]?=some (.int .i64 ((k0+4*j+3:Nat):Int)))∧w.grownBy wr (some b)) (fun _ ix _=>n-(intOf ix).toNat)
 case atStart=>exact⟨0,c,Zg _,rfl,rfl,hb,rfl,fun j hj=>(by omega),Yh _ _⟩
 case round=>
  obtain⟨k,c',hk,rfl,rfl,ha,hf,hl,hg⟩:=hrel;by_cases hlt:k<n
  ·have ht:k*4+3<c'.size:=by rw[hf.out];omega
   have hu:(k:Int)<n:=by omega
   have hv:(0:Int)<=k:=by omega
   obtain⟨KK,he⟩:∃ KK:Int,KK=((k0+4*k:Nat):Int):=⟨_,rfl⟩;have hc:Hid (KK=((k0+4*k:Nat):Int)):=he;rw[<-he];have hr:1<=KK:=by omega
   have hs:KK<=70000000:=by omega
   clear he;obtain⟨v0,y0⟩:=ha.has (i:=k*4) (by first | omega | (simp;omega));have f0:=ha.frozen (k*4);have ho:Hid (Value.int .i64 (KK)=.int .i64 ((k0+4*k:Nat):Int)):=by show Value.int .i64 _=Value.int .i64 _;first | (rw[hc.out];done) | (have:=hc.out;congr 1;omega)
   obtain⟨v1,y1⟩:=ha.has (i:=k*4+1) (by first | omega | (simp;omega));have f1:=ha.frozen (k*4+1);have hp:Hid (Value.int .i64 (KK+1)=.int .i64 ((k0+4*k+1:Nat):Int)):=by show Value.int .i64 _=Value.int .i64 _;first | (rw[hc.out];done) | (have:=hc.out;congr 1;omega)
   go_wp2_with fail
   refine (aR_ (k0+4*k+2) _ (by have:=hc.out;omega) _ (by omega) (by omega)).mono ?_;rintro e w3 ⟨rfl,hh⟩;have b3:=(((ha).set (k*4) (.int .i64 (KK))).set (k*4+1) (.int .i64 (KK+1))).below hh;have g3:=au_ (af_ (af_ (hg) (k*4) (.int .i64 (KK))) (k*4+1) (.int .i64 (KK+1))) hh;obtain⟨v2,y2⟩:=b3.has (i:=k*4+2) (by first | omega | (simp;omega));have f2:=b3.frozen (k*4+2);obtain⟨v3,y3⟩:=b3.has (i:=k*4+3) (by first | omega | (simp;omega));have f3:=b3.frozen (k*4+3);have hq:Hid (Value.int .i64 (KK+1+1+1)=.int .i64 ((k0+4*k+3:Nat):Int)):=by show Value.int .i64 _=Value.int .i64 _;first | (rw[hc.out];done) | (have:=hc.out;congr 1;omega)
   go_wp2;go_roundw
   case rel=>
    refine⟨k+1,_,by omega,by go_num,by (show Value.int IntKind.i64 _=Value.int IntKind.i64 _;have:=hc.out;congr 1;omega),(b3.set (k*4+2) (.string (Bf (k0+4*k+2)))).set (k*4+3) (.int .i64 (KK+1+1+1)),by show _=_;simp[hf.out],?_,af_ (af_ g3 (k*4+2) (.string (Bf (k0+4*k+2)))) (k*4+3) (.int .i64 (KK+1+1+1))⟩;intro j hj;have hm:=hf.out;by_cases hjk:j=k
    ·subst hjk;refine⟨?_,?_,?_,?_⟩
     ·rw[Za (by omega),Za (by omega),Za (by omega),Zh (by first | omega | (simp;omega))];rw[ho.out]
     ·rw[Za (by omega),Za (by omega),Zh (by first | omega | (simp;omega))];rw[hp.out]
     ·rw[Za (by omega),Zh (by first | omega | (simp;omega))]
     ·rw[Zh (by first | omega | (simp;omega))];rw[hq.out]
    ·obtain⟨r0,r1,r2,r3⟩:=hl.out j (by omega);refine⟨?_,?_,?_,?_⟩
     all_goals (rw[Za (by omega),Za (by omega),Za (by omega),Za (by omega)];assumption)
   case measure=>simp[intOf];omega
  ·obtain rfl:k=n:=by omega
   go_wp2;go_returns;go_light
   exact⟨rfl,fun j hj=>(by
    obtain⟨r0,r1,r2,r3⟩:=hl.out j hj;exact⟨b,rfl,by rw[ha.cell];exact r0,by rw[ha.cell];exact r1,by rw[ha.cell];exact r2,by rw[ha.cell];exact r3⟩),hg⟩
theorem Gj (B:Nat)(a:Option Addr)(n cap k0:Nat)(l:List Ct)(w:World)(h:Ac Ct.cs 4 tC w B a n cap l)(hn:n<=4194304)(hk0:1<=k0∧k0<=50000000):
  Calls prog 40 #[.slice a n cap,.int .i64 ((k0:Nat):Int)] w fun e w'=>e=.returned (.int .i64 ((k0+4*n:Nat):Int))∧MkC w' a n k0∧w.grownBy w' (Value.ownBlock (.slice a n cap)):=by
 rcases h.own with⟨rfl,rfl,rfl⟩ | ⟨b,rfl,_,ha,_,c,hc,hb,_⟩
 ·go_enter func40,ntmps40
  go_wp2_with fail
  go_rounds 1
  go_returns;exact⟨rfl,fun j hj=>(by omega),Yh _ _⟩
 ·exact ln_ b n cap k0 c w hc (by rw[hb];exact ZS _ ha) hn hk0
theorem ET (a:Option Addr)(n cap k0:Nat)(w:World)(h:MkC w a n k0)(hn:n<=4194304)(hk0:1<=k0∧k0<=50000000):
  Calls prog 43 #[.slice a n cap,.int .i64 ((k0:Nat):Int)] w fun e w'=>e=.returned (.int .i64 ((k0+4*n:Nat):Int))∧Below w.heap.size w w':=by
 go_enter func43,ntmps43
 go_wp2_with fail
 go_loopw [1,5] (fun kk ix wr=>∃ (k:Nat),k<=n∧ix=.int .i64 k∧kk=.int .i64 ((k0+4*k:Nat):Int)∧Below w.heap.size w wr) (fun _ ix _=>n-(intOf ix).toNat)
 case atStart=>exact⟨0,Zg _,rfl,rfl,Yg _ _⟩
 case round=>
  obtain⟨k,hk,rfl,rfl,hB⟩:=hrel;by_cases hlt:k<n
  ·obtain⟨b,rfl,c0,c1,c2,c3⟩:=h k hlt;have hj:(k:Int)<n:=by omega
   have hl:(0:Int)<=k:=by omega
   obtain⟨KK,ha⟩:∃ KK:Int,KK=((k0+4*k:Nat):Int):=⟨_,rfl⟩;have hc:Hid (KK=((k0+4*k:Nat):Int)):=ha;rw[<-ha];have hg:1<=KK:=by omega
   have hh:KK<=70000000:=by omega
   rw[show ((k0+4*k:Nat):Int)=KK by omega] at c0;have e0:(KK != KK)=false:=by simp
   rw[show ((k0+4*k+1:Nat):Int)=KK+1 by omega] at c1;have e1:(KK+1 != KK+1)=false:=by simp
   rw[show ((k0+4*k+3:Nat):Int)=KK+1+1+1 by omega] at c3;have e3:(KK+1+1+1 != KK+1+1+1)=false:=by simp
   clear ha;replace c0:=Ab hB c0;replace c1:=Ab hB c1;replace c2:=Ab hB c2;replace c3:=Ab hB c3;have e2:(!((Bf (k0+4*k+2)).toList==(Bf (k0+4*k+2)).toList))=false:=by simp
   go_wp2_with fail
   have g2:=Ad c2;have hf:=aA_ wr;refine ab_ (by kernel_rfl) (by kernel_rfl) ?_
   repeat (go_big_quiet_step (first | (go_at_call 47;exact an_ (aR_ (k0+4*k+2) (KK+1+1) (by have:=hc.out;omega) _ (by omega) (by omega)))))
   refine wpQuiet_nil ?_;intro w4 hx;have hb:=ah_ hx;clear hx g2 hf e2;replace c3:=Ab hb c3;have he:=Aa hB hb;go_wp2;go_roundw
   case rel=>exact⟨k+1,by omega,by go_num,by have:=hc.out;show Value.int IntKind.i64 _=Value.int IntKind.i64 _;congr 1;omega,he⟩
   case measure=>simp[intOf];omega
  ·obtain rfl:k=n:=by omega
   go_wp2;go_returns;exact⟨rfl,hB⟩
structure Chg (L:List Nat)(w w':World):Prop where
 os:w'.os=w.os
 tape:w'.tape=w.tape
 output:w'.output=w.output
 size:w.heap.size<=w'.heap.size
 block:∀ k,k<w.heap.size->k∉L->w'.heap[k]?=w.heap[k]?
theorem Chg.refl (L:List Nat)(w:World):Chg L w w:=⟨rfl,rfl,rfl,Zd _,fun _ _ _=>rfl⟩
theorem Chg.mono {L':List Nat}(h:Chg L w w')(hL:∀ k∈L,k∈L'):Chg L' w w':=⟨h.os,h.tape,h.output,h.size,fun k hk hn=>h.block k hk (fun e=>hn (hL k e))⟩
theorem Chg.trans {a b c:World}(h:Chg L a b)(h':Chg L b c):Chg L a c:=⟨h'.os.trans h.os,h'.tape.trans h.tape,h'.output.trans h.output,Zl h.size h'.size,fun k hk hn=>(h'.block k (Zy hk h.size) hn).trans (h.block k hk hn)⟩
theorem Chg.ofB (h:Below w.heap.size w w'):Chg L w w':=⟨h.os,h.tape,h.output,h.size,fun k hk _=>h.block k hk⟩
theorem Chg.ofG (h:w.grownBy w' row)(hr:∀ b,row=some b->b∈L):Chg L w w':=by
 obtain⟨o,t,p,s,b⟩:=h;exact⟨o,t,p,s,fun k hk hn=>b k hk (fun e=>hn (hr k e.symm))⟩
theorem Chg.cell (h:Chg L w w'){o:Nat}(hc:w.cell? ⟨b,o,none⟩=some v)(hb:b∉L):w'.cell? ⟨b,o,none⟩=some v:=by
 have hl:b<w.heap.size:=Yk w ⟨b,o,none⟩ hc;unfold World.cell? at hc ⊢;simp only at hc ⊢;rw[h.block b hl hb];exact hc
theorem Chg.blk {t:TypeId}(h:Chg L w w'){c:Array Value}(hc:Blk w b c t)(hb:b∉L):Blk w' b c t:=(h.block b hc.lt hb).trans hc
theorem Ac.chg {t:TypeId}{cs:α->List Value}{sz:Nat}{cap:Nat}(h:Ac cs sz t w B a n cap l)(hc:Chg L w w')(hn:∀ ad,a=some ad->ad.block∉L):Ac cs sz t w' B a n cap l:=by
 refine⟨⟨h.sl.len,fun i x hx=>?_⟩,?_⟩
 ·obtain⟨b,o,ha,hq⟩:=h.sl.cell i x hx;exact⟨b,o,ha,fun j v hv=>hc.cell (hq j v hv) (hn _ ha)⟩
 ·rcases h.own with h0 | ⟨b,ha,hB,h1,h2,c,hb,q⟩
  ·exact .inl h0
  ·exact .inr ⟨b,ha,hB,h1,h2,c,hc.blk hb (hn _ ha),q⟩
theorem MkP.chg (h:MkP w a n k0)(hc:Chg L w w')(hn:0<n->∀ ad,a=some ad->ad.block∉L):MkP w' a n k0:=fun j hj=>by
 obtain⟨b,ha,c0,c1,c2⟩:=h j hj
 have:=hn (by omega) _ ha
 exact⟨b,ha,hc.cell c0 this,hc.cell c1 this,hc.cell c2 this⟩
def kIt (k0:Nat)(irs:List IQ):Nat:=k0+(irs.map fun x=>1+3*x.n).sum
def kVo (k0:Nat)(vr:List VQ):Nat:=k0+(vr.map fun x=>3+(x.irs.map fun x=>1+3*x.n).sum).sum
theorem lo_ (h:irs[i]?=some x):kIt k0 (irs.take (i+1))=kIt k0 (irs.take i)+1+3*x.n:=by
 unfold kIt;rw[ZK,h];simp;omega
theorem lp_ {x:VQ}(h:vr[i]?=some x):kVo k0 (vr.take (i+1))=kIt (kVo k0 (vr.take i)+3) x.irs:=by
 unfold kVo kIt;rw[ZK,h];simp;omega
theorem o9_ (i:Nat):kIt k0 (irs.take i)<=kIt k0 irs:=by
 have h:=congrArg (fun l=>(l.map fun x:IQ=>1+3*x.n).sum) (YM i irs);simp only[List.map_append,List.sum_append] at h;unfold kIt;omega
theorem pa_ (i:Nat):kVo k0 (vr.take i)<=kVo k0 vr:=by
 have h:=congrArg (fun l=>(l.map fun x:VQ=>3+(x.irs.map fun x=>1+3*x.n).sum).sum) (YM i vr);simp only[List.map_append,List.sum_append] at h;unfold kVo;omega
theorem jI_ (k0:Nat)(irs:List IQ):k0<=kIt k0 irs:=Nat.le_add_right _ _
theorem jJ_ (k0:Nat)(vr:List VQ):k0<=kVo k0 vr:=Nat.le_add_right _ _
def MkI (w:World)(a:Option Addr)(irs:List IQ)(k0:Nat):Prop:=∀ j x,irs[j]?=some x->∃ b,a=some ⟨b,0,none⟩∧w.cell? ⟨b,j*2,none⟩=some (.string (Bf (kIt k0 (irs.take j))))∧w.cell? ⟨b,j*2+1,none⟩=some (.slice x.a x.n x.c)∧MkP w x.a x.n (kIt k0 (irs.take j)+1)
def MkV (w:World)(a:Option Addr)(vr:List VQ)(k0:Nat):Prop:=∀ j x,vr[j]?=some x->∃ b,a=some ⟨b,0,none⟩∧w.cell? ⟨b,j*4,none⟩=some (.int .i64 ((kVo k0 (vr.take j):Nat):Int))∧w.cell? ⟨b,j*4+1,none⟩=some (.string (Bf (kVo k0 (vr.take j)+1)))∧w.cell? ⟨b,j*4+2,none⟩=some (.bool ((((kVo k0 (vr.take j):Nat):Int)+1+1) % 3==0))∧w.cell? ⟨b,j*4+3,none⟩=some (.slice x.a x.n x.c)∧MkI w x.a x.irs (kVo k0 (vr.take j)+3)
theorem MkI.below (h:MkI w a irs k0)(hb:Below w.heap.size w w'):MkI w' a irs k0:=fun j x hx=>by
 obtain⟨b,ha,c0,c1,m⟩:=h j x hx;exact⟨b,ha,Ab hb c0,Ab hb c1,m.below hb⟩
theorem MkV.below (h:MkV w a vr k0)(hb:Below w.heap.size w w'):MkV w' a vr k0:=fun j x hx=>by
 obtain⟨b,ha,c0,c1,c2,c3,m⟩:=h j x hx;exact⟨b,ha,Ab hb c0,Ab hb c1,Ab hb c2,Ab hb c3,m.below hb⟩
theorem MkI.chg (h:MkI w a irs k0)(hc:Chg L w w')(ha:∀ ad,a=some ad->ad.block∉L)(hp:∀ x∈irs,∀ ad,x.a=some ad->ad.block∉L):MkI w' a irs k0:=fun j x hx=>by
 obtain⟨b,e,c0,c1,m⟩:=h j x hx;exact⟨b,e,hc.cell c0 (ha _ e),hc.cell c1 (ha _ e),m.chg hc (fun _=>hp x (Zc hx))⟩
theorem MkV.chg (h:MkV w a vr k0)(hc:Chg L w w')(ha:∀ ad,a=some ad->ad.block∉L)(hv:∀ x∈vr,∀ ad,x.a=some ad->ad.block∉L)(hp:∀ x∈vr,∀ y∈x.irs,∀ ad,y.a=some ad->ad.block∉L):MkV w' a vr k0:=fun j x hx=>by
 obtain⟨b,e,c0,c1,c2,c3,m⟩:=h j x hx;have hm:=Zc hx;exact⟨b,e,hc.cell c0 (ha _ e),hc.cell c1 (ha _ e),hc.cell c2 (ha _ e),hc.cell c3 (ha _ e),m.chg hc (hv x hm) (hp x hm)⟩
abbrev ibl (irs:List IQ):List Nat:=irs.filterMap fun x=>AC x.a
theorem jK_ (h:x∈irs)(ha:x.a=some ad):ad.block∈ibl irs:=YQ.2 ⟨x,h,by simp[AC,ha]⟩
theorem ic_ (h:irs[i]?=some x):ibl (irs.take (i+1))=ibl (irs.take i)++(AC x.a).toList:=by
 unfold ibl;rw[ZK,h];show ((irs.take i)++[x]).filterMap _=_;rw[o6_]
theorem pb_ (hN:(ibl irs).Nodup)(h:irs[i]?=some x)(ha:x.a=some ad):ad.block∉ibl (irs.take i):=fun hm=>by
 have h1:=ic_ h;have h2:((irs.take (i+1)).filterMap fun x=>AC x.a).Nodup:=List.Nodup.sublist ((List.take_sublist _ _).filterMap _) hN;change (ibl (irs.take (i+1))).Nodup at h2;rw[h1,ha] at h2;exact (Yf.1 h2).2.2 _ hm _ (by simp[AC]) rfl
end
section
open Go Go.RowKit Go.BigFrame _root_.Go.Proofs.Tryz
variable{α β:Type}{ad:Addr}{B B' b c cap cap' n n' sz sz':Nat}{a a':Option Addr}{t t':TypeId}{x:VQ}{w w':World}{l:List α}{l' m:List β}{cs:α->List Value}{cs':β->List Value}
theorem bE_ {R:α->β->Prop}(h:Al2 R l m){x:α}(hx:x∈l):∃ y,R x y:=by
 induction h with
 |nil=>cases hx
 |cons hr _ ih=>
  rcases Zn.1 hx with rfl | hx
  ·exact⟨_,hr⟩
  ·exact ih hx
theorem jL_ (h:w.grownBy w' (Value.ownBlock (.slice a n c))):Chg (AC a).toList w w':=Chg.ofG h (fun b e=>by
 cases a with
 |none=>simp[Value.ownBlock] at e
 |some ad=>simp[Value.ownBlock] at e;simp[AC,e])
theorem eK_ (h:Ac cs sz t w B a n cap l)(h':Ac cs' sz' t' w B' a' n' cap' l')(ht:t≠t'){ad':Addr}(e:a=some ad)(e':a'=some ad'):ad.block≠ad'.block:=fun he=>by
 rcases h.own with⟨h0,_⟩ | ⟨b,ha,_,_,_,c,hc,_⟩
 ·rw[h0] at e;cases e
 ·rcases h'.own with⟨h0,_⟩ | ⟨b',hb,_,_,_,c',hf,_⟩
  ·rw[h0] at e';cases e'
  ·rw[ha] at e;cases e;rw[hb] at e';cases e';simp only at he;subst he
   have:=hc.symm.trans hf
   simp at this;exact ht this.2
end
end Go.Proofs.YtbbhcnjhohidnaaGreatDoor
