/- A volume looked up by its name; a piece of one file copied into another. -/
import Derived.Test.YtdmeabghpchckaaGreatDoorU25
set_option maxHeartbeats 20000000
set_option maxRecDepth 100000
namespace Go.Proofs.YtdmeabghpchckaaGreatDoor
open Go Go.RowKit Go.BigFrame Tryz
variable{α:Type}{bs:List Nat}{rows:List VR}{vs:List Vo}{B b ec en i lc n pb rc rn vb vc vn:Nat}{ea la ra:Option Addr}{p:Po}{t:TypeId}{r r':VR}{y:Vo}{w w':World}{l:List α}{x:α}
theorem it_ (S:Addr->Prop)(B:Nat)(h0:0<B)(pb vb vn vc i:Nat)(size next:Int)(ea:Option Addr)(en ec:Nat)(ra:Option Addr)(rn rc:Nat)(la:Option Addr)(ln lc:Nat)(vs:List Vo)(rows:List VR)(r:VR)(y:Vo)(vol into:ByteArray)(at':Int)(sv sf:ByteArray)(fr tz:Int)(w:World)(hBw:B<=w.heap.size)(P:Blk w pb #[.int .i64 size,.int .i64 next,.slice ea en ec,.slice (some ⟨vb,0,none⟩) vn vc,.slice ra rn rc,.slice la ln lc] 28)(T:Ax B w rows vs)(hvn:vn<=4194304)(hst:DB vs)(hnd:(vs.map (·.nm.toList)).Nodup)(hsv:sv.size<=1048576)(F:Foc B vb vn vc i rows r y w)(hS:BO S w):
  Calls prog 99 #[.pointer (some ⟨pb,0,none⟩),.pointer (some ⟨vb,i*4,none⟩),.agg #[.string vol,.string into,.int .i64 at',.string sv,.string sf,.int .i64 fr,.int .i64 tz]] w fun e w'=>Gd S B vb vn vc i rows r y w e w' (Cz vs y into at' sv sf fr tz):=by
 have hR:Hid (Cz vs y into at' sv sf fr tz=match (volI vs sv).bind (fun j=>vs[j]?) with | none=>.inl 3 | some u=>match AO u sf with | none=>.inl 3 | some l=>match AY l fr tz with | none=>.inl 3 | some q=>Bu y into ((AO y into).getD []) at' q):=rfl;generalize Cz vs y into at' sv sf fr tz=R at *;obtain⟨W0,hp⟩:∃ W,W=w.alloc (.cells #[.string vol,.string into,.int .i64 at',.string sv,.string sf,.int .i64 fr,.int .i64 tz] 173):=⟨_,rfl⟩;have hw:Below w.heap.size w W0:=by rw[hp];exact (Yg _ _).alloc (Zd _) _
 have Xb:Blk W0 w.heap.size #[.string vol,.string into,.int .i64 at',.string sv,.string sf,.int .i64 fr,.int .i64 tz] 173:=by rw[hp];exact Blk.new _ _ _
 go_enter func99,ntmps99
 go_wp2_with fail
 rw[<-hp];clear hp;have hW:Below W0.heap.size W0 W0.drew:=(Yg _ _).drew;have hC:=Aa hw hW;replace F:=F.below hC;replace hS:=hS.below hC;replace P:=P.below hC;replace T:=T.below hC;replace Xb:=Xb.below hW;have hZ:=hC.size;have p:=P.six';have xd:W0.drew.cell? ⟨w.heap.size,3,none⟩=some (.string sv):=Xb.cell 3;clear hw;have hF:(fun u=>(u.cell? ⟨pb,0,none⟩=some (.int .i64 size)∧u.cell? ⟨pb,1,none⟩=some (.int .i64 next)∧u.cell? ⟨pb,2,none⟩=some (.slice ea en ec)∧u.cell? ⟨pb,3,none⟩=some (.slice (some ⟨vb,0,none⟩) vn vc)∧u.cell? ⟨pb,4,none⟩=some (.slice ra rn rc)∧u.cell? ⟨pb,5,none⟩=some (.slice la ln lc))∧u.cell? ⟨w.heap.size,3,none⟩=some (.string sv)) W0.drew:=⟨p,xd⟩;refine aC_ (S:=(fun u=>(u.cell? ⟨pb,0,none⟩=some (.int .i64 size)∧u.cell? ⟨pb,1,none⟩=some (.int .i64 next)∧u.cell? ⟨pb,2,none⟩=some (.slice ea en ec)∧u.cell? ⟨pb,3,none⟩=some (.slice (some ⟨vb,0,none⟩) vn vc)∧u.cell? ⟨pb,4,none⟩=some (.slice ra rn rc)∧u.cell? ⟨pb,5,none⟩=some (.slice la ln lc))∧u.cell? ⟨w.heap.size,3,none⟩=some (.string sv))) 9 (by kernel_rfl) rfl ?_;generalize W0.drew=u0 at *;refine tk 0 ?_;refine tk 1 ?_;refine tk 2 ?_;refine tk 4 ?_;refine tk 5 ?_;refine tk 6 ?_;refine AW (i:=3) (by kernel_rfl) rfl (fun K hK=>?_);go_simp;refine (iW_ B size next ea en ec (some ⟨vb,0,none⟩) vn vc ra rn rc la ln lc vb rows vs (fun _=>rfl) u0 F.rv T hvn hst hnd).mono ?_;rintro e u1 ⟨⟨mb,rfl,hz⟩,hb⟩;have hl:=hz sv hsv;clear hz;obtain⟨o,hn⟩:∃ o,Hid (volI vs sv=o):=⟨_,rfl⟩;rw[hn.out] at hl;replace hC:=Aa hC hb;replace F:=F.below hb;replace hS:=hS.below hb;replace T:=T.below hb;replace P:=P.below hb;replace Xb:=Xb.below hb;have hU:=hb.size;clear hb p xd;have p:=P.six';have xd:u1.cell? ⟨w.heap.size,3,none⟩=some (.string sv):=Xb.cell 3;dsimp only;refine hK.out _ _ ⟨p,xd⟩ (fun hHeld=>?_);clear hK K
 try simp only[Act.put,lsA,lsB,lsC]
 refine AW (i:=7) (by kernel_rfl) rfl (fun K hK=>?_);go_simp;refine hK.out _ _ ⟨p,xd⟩ (fun hHeld=>?_);clear hK K
 try simp only[Act.put,lsA,lsB,lsC]
 refine tk 8 ?_;refine wpAnyH_done (by kernel_rfl) ?_ _;clear hHeld hl p xd hW hF;obtain⟨x0,x1,x2,x3,x4,x5,x6⟩:u1.cell? ⟨w.heap.size,0,none⟩=some (.string vol)∧u1.cell? ⟨w.heap.size,1,none⟩=some (.string into)∧u1.cell? ⟨w.heap.size,2,none⟩=some (.int .i64 at')∧u1.cell? ⟨w.heap.size,3,none⟩=some (.string sv)∧u1.cell? ⟨w.heap.size,4,none⟩=some (.string sf)∧u1.cell? ⟨w.heap.size,5,none⟩=some (.int .i64 fr)∧u1.cell? ⟨w.heap.size,6,none⟩=some (.int .i64 tz):=⟨Xb.cell 0,Xb.cell 1,Xb.cell 2,Xb.cell 3,Xb.cell 4,Xb.cell 5,Xb.cell 6⟩
 cases o with
 |none=>
  dsimp only[BS];obtain⟨ev,hJ,hv⟩:=hS.volume;have g:u1.cell? ⟨4,0,none⟩=_:=hJ;go_wp2;go_returns;rw[hR.out,hn.out];exact⟨⟨ev,hv,rfl⟩,hC⟩
 |some j=>
  dsimp only[BS];have ht:=ap_ hn.out;obtain⟨u,hu⟩:∃ u,vs[j]?=some u:=⟨vs[j],by simp[ht]⟩;obtain⟨q,hq⟩:∃ q,rows[j]?=some q:=⟨rows[j]'(by rw[T.len];exact ht),by simp⟩;have VQ:=(T.at' j q u hq hu).at F.rv hq
  have ho:Hid (R=match AO u sf with | none=>.inl 3 | some l=>match AY l fr tz with | none=>.inl 3 | some q=>Bu y into ((AO y into).getD []) at' q):=by
   show _=_;rw[hR.out,hn.out,YO,hu]
  clear hR hn;obtain⟨m1,m2,m3⟩:=hst u (Zc hu);clear hu hq ht
  go_wp2_with fail
  refine (bv_ B vb (j*4) h0 u sf u1 VQ m2 m3).mono ?_;rintro e w2 ⟨ha,hh⟩;replace hC:=Aa hC hh;replace F:=F.below hh;replace hS:=hS.below hh;replace Xb:=Xb.below hh;have hV:=hh.size;clear hh x0 x1 x2 x3 x4 x5 x6 VQ;obtain⟨x0,x1,x2,x3,x4,x5,x6⟩:w2.cell? ⟨w.heap.size,0,none⟩=some (.string vol)∧w2.cell? ⟨w.heap.size,1,none⟩=some (.string into)∧w2.cell? ⟨w.heap.size,2,none⟩=some (.int .i64 at')∧w2.cell? ⟨w.heap.size,3,none⟩=some (.string sv)∧w2.cell? ⟨w.heap.size,4,none⟩=some (.string sf)∧w2.cell? ⟨w.heap.size,5,none⟩=some (.int .i64 fr)∧w2.cell? ⟨w.heap.size,6,none⟩=some (.int .i64 tz):=⟨Xb.cell 0,Xb.cell 1,Xb.cell 2,Xb.cell 3,Xb.cell 4,Xb.cell 5,Xb.cell 6⟩;change CW B e w2 (AO u sf) at ha
  cases hf:AO u sf with
  |none=>
   rw[hf] at ha;obtain rfl:=ha;obtain⟨ef,hH,hO⟩:=hS.file;have g:w2.cell? ⟨8,0,none⟩=_:=hH;go_wp2;go_returns;rw[ho.out,hf];exact⟨⟨ef,hO,rfl⟩,hC⟩
  |some l=>
   rw[hf] at ha;obtain⟨pa,pn,pc,rfl,hP,hT,hE,hx⟩:=ha;have hM:pn<=4194304:=by rw[<-hP.len];exact hE
   go_wp2_with fail
   refine (hp_ pa pn pc l fr tz w2 hP hM hx).mono ?_;rintro e w3 ⟨hr,hj⟩;replace hC:=Aa hC hj;replace F:=F.below hj;replace hS:=hS.below hj;replace Xb:=Xb.below hj;have hX:=hj.size;clear hj x0 x1 x2 x3 x4 x5 x6 hP hx;obtain⟨x0,x1,x2,x3,x4,x5,x6⟩:w3.cell? ⟨w.heap.size,0,none⟩=some (.string vol)∧w3.cell? ⟨w.heap.size,1,none⟩=some (.string into)∧w3.cell? ⟨w.heap.size,2,none⟩=some (.int .i64 at')∧w3.cell? ⟨w.heap.size,3,none⟩=some (.string sv)∧w3.cell? ⟨w.heap.size,4,none⟩=some (.string sf)∧w3.cell? ⟨w.heap.size,5,none⟩=some (.int .i64 fr)∧w3.cell? ⟨w.heap.size,6,none⟩=some (.int .i64 tz):=⟨Xb.cell 0,Xb.cell 1,Xb.cell 2,Xb.cell 3,Xb.cell 4,Xb.cell 5,Xb.cell 6⟩
   cases hm:AY l fr tz with
   |none=>
    rw[hm] at hr;obtain rfl:=hr;obtain⟨eb,hG,hN⟩:=hS.bytes;have g:w3.cell? ⟨9,0,none⟩=_:=hG;go_wp2;go_returns;rw[ho.out,hf];simp only[hm];exact⟨⟨eb,hN,rfl⟩,hC⟩
   |some Q=>
    have hs:=hU_ l fr tz;rw[hm] at hr hs;simp only[Yw] at hs;obtain⟨ka,kn,kc,rfl,RK⟩:=hr;have hL:kn<=4194304:=by rw[<-RK.sl.len];omega
    have hy:Hid (R=Bu y into ((AO y into).getD []) at' Q):=by
     show _=_;rw[ho.out,hf];simp only[hm]
    clear ho hf hm hs
    go_wp2_with fail
    refine (bv_ B vb (i*4) h0 y into w3 (F.v.at F.rv F.hi) (by have:=F.len;omega) F.str).mono ?_;rintro e w4 ⟨ha,hc⟩;replace hC:=Aa hC hc;replace F:=F.below hc;replace hS:=hS.below hc;replace Xb:=Xb.below hc;replace RK:=RK.below hc;have hY:=hc.size;clear hc x0 x1 x2 x3 x4 x5 x6;obtain⟨x0,x1,x2,x3,x4,x5,x6⟩:w4.cell? ⟨w.heap.size,0,none⟩=some (.string vol)∧w4.cell? ⟨w.heap.size,1,none⟩=some (.string into)∧w4.cell? ⟨w.heap.size,2,none⟩=some (.int .i64 at')∧w4.cell? ⟨w.heap.size,3,none⟩=some (.string sv)∧w4.cell? ⟨w.heap.size,4,none⟩=some (.string sf)∧w4.cell? ⟨w.heap.size,5,none⟩=some (.int .i64 fr)∧w4.cell? ⟨w.heap.size,6,none⟩=some (.int .i64 tz):=⟨Xb.cell 0,Xb.cell 1,Xb.cell 2,Xb.cell 3,Xb.cell 4,Xb.cell 5,Xb.cell 6⟩;change CW B e w4 (AO y into) at ha
    obtain⟨da,dn,dc,bk,rfl,hD,hB,hA⟩:∃ pa pn pc bk,e=.returned (.tuple #[.slice pa pn pc,.bool bk])∧AM w4 pa pn ((AO y into).getD [])∧pn<=4194304∧∀ ad,pa=some ad->ad.block<w4.heap.size:=by
     cases hf:AO y into with
     |none=>rw[hf] at ha;exact⟨none,0,0,false,ha,(aB_ (t:=146) (B:=0)).sl,by omega,fun ad e=>by cases e⟩
     |some l=>
      rw[hf] at ha;obtain⟨pa,pn,pc,he,h1,h2,h3,h4⟩:=ha;exact⟨pa,pn,pc,true,he,h1,by rw[<-h1.len];exact h3,h4⟩
    clear ha;obtain⟨ep,hI,hQ⟩:=hS.parts
    go_wp2_with fail
    refine (Di B vb vn vc i rows r y into da dn dc ((AO y into).getD []) at' ka kn kc Q ep w4 (by omega) F hD hB hA RK.sl hL (fun ad e=>(RK.block ad e).2) hI).mono ?_;rintro e w5 hk;have hg:=gp_ (file:=into) hQ hC hk;rcases hk with⟨_,rfl,_⟩ | ⟨ps,_,rfl,_⟩
    ·unfold BJ at hg ⊢;go_wp2;go_returns;rw[hy.out];exact hg
    ·go_wp2;go_returns;rw[hy.out];exact hg
def HY (S:Addr->Prop)(B pb:Nat)(size next:Int)(ea:Option Addr)(en ec:Nat)(va:Option Addr)(vn:Nat)(ra:Option Addr)(rn rc:Nat)(la:Option Addr)(ln lc:Nat)(vs:List Vo)(rows:List VR)(name:ByteArray)(its:List It)(w:World)(e:Ending)(w':World):Option Nat->Prop
 |some _=>(∃ a,S a∧e=.returned (BJ 4 a))∧Below w.heap.size w w'
 |none=>e=.returned .nilIface∧∃ va' vc' rows',Blk w' pb #[.int .i64 size,.int .i64 (next+1),.slice ea en ec,.slice va' (vn+1) vc',.slice ra rn rc,.slice la ln lc] 28∧Ad vrs 4 38 w' B va' (vn+1) vc' rows'∧Ax B w' rows' (vs++[⟨next,name,false,its⟩])∧FrL (pb::AT va) w w'∧∃ r',rows'=rows++[r']∧(∀ ad,r'.pa=some ad->w.heap.size<=ad.block)∧(pbk w' r').Nodup∧∀ z∈pbk w' r',w.heap.size<=z
theorem ev_ (S:Addr->Prop)(B:Nat)(h0:0<B)(pb:Nat)(size next:Int)(ea:Option Addr)(en ec:Nat)(va:Option Addr)(vn vc:Nat)(ra:Option Addr)(rn rc:Nat)(la:Option Addr)(ln lc:Nat)(vb:Nat)(vs:List Vo)(rows:List VR)(name:ByteArray)(qa:Option Addr)(qn qc:Nat)(its:List It)(w:World)(hva:0<vn->va=some ⟨vb,0,none⟩)(hBw:B<=w.heap.size)(P:Blk w pb #[.int .i64 size,.int .i64 next,.slice ea en ec,.slice va vn vc,.slice ra rn rc,.slice la ln lc] 28)(RV:Ad vrs 4 38 w B va vn vc rows)(T:Ax B w rows vs)(hvn:vn<=4194304)(hst:DB vs)(hnd:(vs.map (·.nm.toList)).Nodup)(hnm:name.size<=1048576)(hn1:0<=next)(hn2:next<=4611686018427387904)(hI:Bf B w qa qn its)(hH:Hd B qa qn qc)(hqn:qn<=4194304)(hqp:∀ y∈its,y.ps.length<=4194304)(hS:BO S w):
  Calls prog 93 #[.pointer (some ⟨pb,0,none⟩),.string name,.slice qa qn qc] w fun e w'=>HY S B pb size next ea en ec va vn ra rn rc la ln lc vs rows name its w e w' (volI vs name):=by
 obtain⟨o,ho⟩:∃ o,Hid (volI vs name=o):=⟨_,rfl⟩;rw[ho.out];have p:=P.six';obtain⟨p0,p1,p2,p3,p4,p5⟩:=p;go_enter func93,ntmps93
 go_wp2_with fail
 refine (iW_ B size next ea en ec va vn vc ra rn rc la ln lc vb rows vs hva w RV T hvn hst hnd).mono ?_;rintro e w1 ⟨⟨mb,rfl,hp⟩,hb⟩;have ha:=hp name hnm;clear hp p0 p1 p2 p3 p4 p5;rw[ho.out] at ha;clear ho;replace RV:=RV.below hb;replace T:=T.below hb;replace P:=P.below hb;replace hS:=hS.below hb;replace hI:=hI.below hb;have hx:=hb.size
 cases o with
 |some j=>
  dsimp only[BS] at ha;obtain⟨et,ht,hl⟩:=hS.there;have g:w1.cell? ⟨6,0,none⟩=_:=ht;go_wp2;go_returns;exact⟨⟨et,hl,rfl⟩,hb⟩
 |none=>
  dsimp only[BS] at ha;obtain⟨p0,p1,p2,p3,p4,p5⟩:=P.six'
  go_wp2_with fail
  clear ha;have hW:Below w1.heap.size w1 w1.drew:=(Yg _ _).drew;have hs:(fun u=>u.cell? ⟨pb,1,none⟩=some (.int .i64 next)∧u.cell? ⟨pb,3,none⟩=some (.slice va vn vc)) w1.drew:=⟨p1,p3⟩;refine ar_ (S:=(fun u=>u.cell? ⟨pb,1,none⟩=some (.int .i64 next)∧u.cell? ⟨pb,3,none⟩=some (.slice va vn vc))) 17 (by kernel_rfl) (by kernel_rfl) ?_;refine tk 0 ?_;refine tk 1 ?_;refine tk 2 ?_;refine tk 3 ?_;refine tk 4 ?_;refine tk 5 ?_;refine tk 6 ?_;refine tk 7 ?_;refine tk 8 ?_;refine tk 9 ?_;refine tk 10 ?_;refine AW (i:=11) (by kernel_rfl) rfl (fun K hK=>?_);go_simp;refine (er_ B h0 qa qn qc its w1.drew (hI.below hW) hH hqn hqp).mono ?_;rintro e w2 ⟨⟨a2,c2,rows2,rfl,R2,T2,N2⟩,he⟩;replace he:Below w1.heap.size w1 w2:=Aa hW he;have hB:w1.drew.heap.size=w1.heap.size:=rfl;replace P:=P.below he;replace RV:=RV.below he;replace T:=T.below he;have hj:=Aa hb he;have hw:w1.drew.heap.size=w1.heap.size:=rfl;have hu:∀ ad,a2=some ad->w.heap.size<=ad.block:=fun ad e=>by have:=(R2.block ad e).1;omega
  have hv:∀ z∈bkI rows2,w.heap.size<=z:=fun z hz=>by
   obtain⟨i,q,x,h1,h2,rfl⟩:=jn_ hz;have hi:i<its.length:=by rw[<-T2.len];exact (Zb.1 h1).1
   have:=((T2.at' i q its[i] h1 (by simp[hi])).ps.block x h2).1
   omega
  have hy:=he.size;clear p0 p1 p2 p3 p4 p5 hI hS;dsimp only;refine hK.out _ _ ⟨P.cell 1,P.cell 3⟩ (fun hHeld=>?_);clear hK K
  try simp only[Act.put,lsA,lsB,lsC]
  refine tk 12 ?_;refine AW (i:=13) (by kernel_rfl) rfl (fun K hK=>?_);go_simp;have hc:Below w2.heap.size w2 (w2.alloc (.cells #[.int .i64 next,.string name,.bool false,.slice a2 qn c2] 38)):=(Yg _ _).alloc (Zd _) _;have N3:AE vrs 4 (w2.alloc (.cells #[.int .i64 next,.string name,.bool false,.slice a2 qn c2] 38)) (some ⟨w2.heap.size,0,none⟩) 1 [(⟨next,name,false,a2,qn,c2⟩:VR)]:=fQ_ w2 (⟨next,name,false,a2,qn,c2⟩:VR) _ _ rfl;replace P:=P.below hc;replace RV:=RV.below hc;replace T:=T.below hc;replace R2:=R2.below hc;replace T2:=T2.below hc;replace hj:=Aa hj hc;have hA:=hc.size;refine hK.out _ _ ⟨P.cell 1,P.cell 3⟩ (fun hHeld=>?_);clear hK K
  try simp only[Act.put,lsA,lsB,lsC]
  generalize w2.alloc (.cells #[.int .i64 next,.string name,.bool false,.slice a2 qn c2] 38)=w3 at *;refine AW (i:=14) (by kernel_rfl) rfl (fun K hK=>?_);refine aJ_ rfl (dC_ _ _ rfl B va vn vc rows rfl RV (some ⟨w2.heap.size,0,none⟩) 1 1 [(⟨next,name,false,a2,qn,c2⟩:VR)] rfl N3 (fun ad h=>(by cases h;rfl)) (fun h=>(by cases h)) (vn+1) rfl (by omega) (by omega) (fun va' vc' w4 R4 hf=>?_));have hg:=RV.rowTy (m:=vn) (k:=vc);have P4:=P.ty hf hg (by decide);have T4:=T.ty hf hg (by decide) (by decide);have hm:=(R2.ty hf hg (by decide)).mono (show B<=w1.drew.heap.size by omega);have hn:=(T2.ty hf hg (by decide)).mono (show B<=w1.drew.heap.size by omega);have hr:=(FrL.of_below (bs:=pb::AT va) hj).new (FrL.of_grown (bs:=AT va) hf (fun k e=>.inl (gm_ e))) (fun k hk=>.inl (ZY _ hk));have V4:=T4.snoc (y:=⟨next,name,false,its⟩) (r:=(⟨next,name,false,a2,qn,c2⟩:VR)) ⟨rfl,rfl,rfl,rows2,hm,hn⟩;refine hK.out _ _ ⟨P4.cell 1,P4.cell 3⟩ (fun hHeld=>?_);clear hK K
  try simp only[Act.put,lsA,lsB,lsC]
  refine tk 15 ?_;refine tk 16 ?_;refine wpAnyH_done (by kernel_rfl) ?_ _;refine BI rfl ?_;clear hHeld hs P RV T R2 T2 hn T4 N3 hg hf hW;obtain⟨p0,p1,p2,p3,p4,p5⟩:=P4.six';have f3:=P4.frozen 3;have f1:=P4.frozen 1;go_wp2;go_returns;have hh:w4.grownBy ((w4.setCell ⟨pb,3,none⟩ (.slice va' (vn+1) vc')).setCell ⟨pb,1,none⟩ (.int .i64 (next+1))) (some pb):=af_ (af_ (Yh _ _) _ _) _ _;have P5:=(P4.set 3 (.slice va' (vn+1) vc')).set 1 (.int .i64 (next+1));simp only[Yj,Yq,Yr] at P5;have hq:pbk ((w4.setCell ⟨pb,3,none⟩ (.slice va' (vn+1) vc')).setCell ⟨pb,1,none⟩ (.int .i64 (next+1))) ⟨next,name,false,a2,qn,c2⟩=bkI rows2:=cv_ (r:=⟨next,name,false,a2,qn,c2⟩) (hm.ty hh (aa_ P4) (by decide)).sl;exact⟨rfl,va',vc',_,P5,R4.ty hh (aa_ P4) (by decide),V4.ty hh (aa_ P4) (by decide) (by decide),hr.new (FrL.of_grown (bs:=[pb]) hh (fun k e=>.inl (by cases e;simp))) (fun k hk=>.inl (by simp at hk;subst hk;simp)),_,rfl,hu,by rw[hq];exact N2,by rw[hq];exact hv⟩
def cr_ (rows:List Ex)(I:World->Prop)(fv:Value)(q:Ex->Bool):Prop:=∃ f cp,fv=.func (.func f) #[] #[cp]∧(∀ (x y:Value) (u:World),(callFunc f #[x,y]).run prog u=.ok (.enter f #[x,y]) u)∧∀ (u:World) (r:Ex),r∈rows->I u->Calls prog f #[.agg #[.int .i64 r.a,.string r.d],cp] u fun e w'=>e=.returned (.bool (q r))∧Below u.heap.size u w'
theorem fj_ (rows:List Ex)(I:World->Prop)(fv:Value)(q:Ex->Bool)(hq:cr_ rows I fv q)(hI:∀ u u',I u->Below u.heap.size u u'->I u')(a:Option Addr)(n cap:Nat)(w:World)(h:AE Ex.cs 2 w a n rows)(hw:I w)(hn:n<=4194304):
  Calls prog 159 #[.slice a n cap,fv] w fun e w'=>e=.returned (.int .i64 (BX (rows.findIdx? q)))∧Below w.heap.size w w':=by
 obtain⟨f,cp,rfl,hh,hq⟩:=hq;have hb:Hid (rows.length=n):=h.len;have hR:Hid ((BX (rows.findIdx? q))=BX (((rows.drop 0).findIdx? q).map (fun j:Nat=>j+0))):=by show _=_;simp
 generalize (BX (rows.findIdx? q))=R at *;go_enter func159,ntmps159
 go_wp2_with fail
 go_loopw [5,8] (fun _ ix wr=>∃ (k:Nat),k<=n∧ix=.int .i64 k∧Hid (R=BX (((rows.drop k).findIdx? q).map (fun j:Nat=>j+k)))∧Below w.heap.size w wr) (fun _ ix _=>n-(intOf ix).toNat)
 case atStart=>exact⟨0,Zg _,rfl,hR,Yg _ _⟩
 case round=>
  clear hR;obtain⟨k,hk,rfl,he,hB⟩:=hrel;by_cases hlt:k<n
  ·have hl:(k:Int)<n:=by omega
   have hm:(0:Int)<=k:=by omega
   have hj:k<rows.length:=by rw[hb.out];exact hlt
   obtain⟨r,hr⟩:∃ r,rows[k]?=some r:=⟨rows[k],by simp[hj]⟩;obtain⟨b,o,rfl,hc⟩:=(h.below hB).cell k r hr;have x0:wr.cell? ⟨b,o+k*2,none⟩=some (.int .i64 r.a):=hc 0 _ rfl;have x1:wr.cell? ⟨b,o+k*2+1,none⟩=some (.string r.d):=hc 1 _ rfl
   have ha:Hid (R=BX (if q r=true then some k else ((rows.drop (k+1)).findIdx? q).map (fun j:Nat=>j+(k+1)))):=by
    show _=_;rw[he.out,al_ hr,List.findIdx?_cons]
    cases q r
    ·simp only[Zj,if_false]
     cases (rows.drop (k+1)).findIdx? q with
     |none=>rfl
     |some j=>simp only[Option.map_some];congr 2;omega
    ·simp
   clear he
   go_wp2_with fail
   refine (hq wr r (Zc hr) (hI _ _ hw hB)).mono ?_;rintro e w2 ⟨rfl,hg⟩;have hC:=Aa hB hg
   cases hf:q r
   ·rw[hf] at ha;simp only[Zj,if_false] at ha;go_wp2;go_roundw
    case rel=>exact⟨k+1,by omega,by go_num,ha,hC⟩
    case measure=>simp[intOf];omega
   ·rw[hf] at ha;simp only[if_true] at ha;go_wp2;go_returns;exact⟨by rw[ha.out]<;>rfl,hC⟩
  ·obtain rfl:k=n:=by omega
   go_wp2;go_returns;exact⟨by rw[he.out,Ze (Zm hb.out)];rfl,hB⟩
theorem p6_:∀ m,∀ u∈(Builtin.zeroCells (.agg #[.int .i64 0,.string .empty]:Value).cells m).toList,u.oneCell'=true:=by
 intro m u hu;simp only[Builtin.zeroCells,Array.toList_map,ZT] at hu;obtain⟨j,_,rfl⟩:=hu;have h:j % 2<2:=Nat.mod_lt _ (by decide);show ((.agg #[.int .i64 0,.string .empty]:Value).cells[j % 2]!).oneCell'=true;generalize j % 2=k at h
 match k,h with
 |0,_=>rfl
 |1,_=>rfl
theorem hW_ (rows:List Ex)(I:World->Prop)(fv:Value)(q:Ex->Bool)(hq:cr_ rows I fv q)(hI:∀ u u',I u->Below u.heap.size u u'->I u')(B b n cap:Nat)(hI2:∀ u u',I u->u.grownBy u' (some b)->I u')(w:World)(R:Ad Ex.cs 2 42 w B (some ⟨b,0,none⟩) n cap rows)(hw:I w)(hn:n<=4194304):
  Calls prog 138 #[.slice (some ⟨b,0,none⟩) n cap,fv] w fun e w'=>∃ m,e=.returned (.slice (some ⟨b,0,none⟩) m cap)∧Ad Ex.cs 2 42 w' B (some ⟨b,0,none⟩) m cap (rows.filter (fun r=>!(q r)))∧w.grownBy w' (some b):=by
 have hf:Hid (rows.length=n):=R.sl.len
 have qo:n<=cap∧cap<=9223372036854775807:=by
  rcases R.own with⟨h0,_⟩ | ⟨b',h1,_,h3,h4,_⟩
  ·cases h0
  ·unfold maxLen at h4;omega
 obtain⟨f,cp,rfl,hB,hq⟩:=hq;have qc:cr_ rows I (.func (.func f) #[] #[cp]) q:=⟨f,cp,rfl,hB,hq⟩;go_enter func138,ntmps138
 go_wp2_with fail
 refine (fj_ rows I (.func (.func f) #[] #[cp]) q qc hI (some ⟨b,0,none⟩) n cap w R.sl hw hn).mono ?_;rintro e w1 ⟨rfl,ht⟩;have hU:=hI _ _ hw ht;replace R:=R.below ht;have hu:w.grownBy w1 (some b):=au_ (Yh _ _) ht
 cases hM:rows.findIdx? q with
 |none=>
  have hh:rows.filter (fun r=>!(q r))=rows:=by
   rw[YA];intro r hr
   have:=YL.1 hM r hr
   simpa using this
  unfold BX;go_wp2;go_returns;rw[hh];exact⟨n,rfl,R,hu⟩
 |some k0=>
  obtain⟨hN,hO,hP⟩:=ZA.1 hM;have hD:k0<n:=by rw[<-hf.out];exact hN
  have hk:Hid (rows.take k0=(rows.take (k0+1)).filter (fun r=>!(q r))):=by
   show _=_
   have h1:(rows.take k0).filter (fun r=>!(q r))=rows.take k0:=by
    rw[YA];intro a ha;obtain⟨j,hj,rfl⟩:=List.mem_take_iff_getElem.1 ha
    have:=hP j (by omega)
    simpa using this
   rw[ZK,YR,h1,ZI hN];simp[hO]
  unfold BX;have hz:¬ ((k0:Int)=-1):=by omega
  have qq:((k0:Int)==-1)=false:=by rw[ZV];omega
  go_wp2_with fail
  go_loopw [5,6] (fun vi vj wr=>∃ (i j:Nat) (L:List Ex),i<j∧j<=n∧vi=.int .i64 i∧vj=.int .i64 j∧Ad Ex.cs 2 42 wr B (some ⟨b,0,none⟩) n cap L∧Hid (L.take i=(rows.take j).filter (fun r=>!(q r)))∧Hid (L.drop j=rows.drop j)∧I wr∧w.grownBy wr (some b)) (fun _ vj _=>n-(intOf vj).toNat)
  case atStart=>exact⟨k0,k0+1,rows,ZB _,hD,rfl,rfl,R,hk,rfl,hU,hu⟩
  case round=>
   clear R hU hu hk hO hP;obtain⟨i,j,L,ql,hj,rfl,rfl,R,hm,hx,hW,hG⟩:=hrel;have qa:L.length=n:=R.sl.len;by_cases hlt:j<n
   ·have qm:(j:Int)<n:=by omega
    have qn:(0:Int)<=j:=by omega
    have qi:(i:Int)<n:=by omega
    have qj:(0:Int)<=i:=by omega
    have h9:j<rows.length:=by rw[hf.out];exact hlt
    obtain⟨v,hv⟩:∃ v,rows[j]?=some v:=⟨rows[j],by simp[h9]⟩
    have hT:L[j]?=some v:=by
     have h1:(L.drop j)[0]?=(rows.drop j)[0]?:=by rw[hx.out]
     simpa[hv] using h1
    have hL:L.drop (j+1)=rows.drop (j+1):=by
     have h1:(L.drop j).drop 1=(rows.drop j).drop 1:=by rw[hx.out]
     simpa[List.drop_drop,Nat.add_comm] using h1
    have hb:(rows.take (j+1)).filter (fun r=>!(q r))=(rows.take j).filter (fun r=>!(q r))++(if q v=true then [] else [v]):=by
     rw[ZK,hv,YR];simp only[Option.toList_some,ZH,List.filter_nil]
     cases q v<;>simp
    have x0:wr.cell? ⟨b,j*2,none⟩=some (.int .i64 v.a):=R.cellAt (j:=0) hT rfl;have x1:wr.cell? ⟨b,j*2+1,none⟩=some (.string v.d):=R.cellAt (j:=1) hT rfl
    go_wp2_with fail
    have hA:Below wr.heap.size wr (wr.alloc (.cells #[.int .i64 v.a,.string v.d] 42)):=(Yg _ _).alloc (Zd _) _;have V:=Blk.new wr #[.int .i64 v.a,.string v.d] 42;have hE:=hI _ _ hW hA;refine (hq _ v (Zc hv) hE).mono ?_;rintro e w2 ⟨rfl,hl⟩;have hg:=Aa hA hl;have R2:=R.below hg;have V2:=V.below hl;have hV:=hI _ _ hW hg;have hF:=au_ hG hg;have qp:¬ wr.heap.size=b:=by have:=(R.block _ rfl).2;simp only at this;omega
    have qd:¬ b=wr.heap.size:=by omega
    obtain⟨cc,hp⟩:=R2.blkAt;have y0:w2.cell? ⟨wr.heap.size,0,none⟩=some (.int .i64 v.a):=V2.cell 0;have y1:w2.cell? ⟨wr.heap.size,1,none⟩=some (.string v.d):=V2.cell 1
    cases hQ:q v
    ·rw[hQ] at hb;simp only[Zj,if_false] at hb;have hs:i<L.length:=by omega
     obtain⟨o,ho⟩:∃ o,L[i]?=some o:=⟨L[i],by simp[hs]⟩;have z0:w2.cell? ⟨b,i*2,none⟩=some (.int .i64 o.a):=R2.cellAt (j:=0) ho rfl;have f0:=hp.frozen (i*2);have z1:w2.cell? ⟨b,i*2+1,none⟩=some (.string o.d):=R2.cellAt (j:=1) ho rfl;have f1:=hp.frozen (i*2+1);clear V V2 hA hg hE hl R hp qa x0 x1;go_wp2;have Q0:=R2.set1 (x':=⟨v.a,o.d⟩) (v:=.int .i64 v.a) aK_ (i:=i) (j:=0) (l:=L) (x:=o) (ho) (by decide) rfl;have Q1:=Q0.set1 (x':=v) (v:=.string v.d) aK_ (i:=i) (j:=1) (l:=(L.set i ⟨v.a,o.d⟩)) (x:=⟨v.a,o.d⟩) (by simp[hs]) (by decide) rfl;rw[List.set_set] at Q1;have hH:w2.grownBy ((w2.setCell ⟨b,i*2,none⟩ (.int .i64 v.a)).setCell ⟨b,i*2+1,none⟩ (.string v.d)) (some b):=af_ (af_ (Yh _ _) _ _) _ _
     have hy:Hid ((L.set i v).take (i+1)=(rows.take (j+1)).filter (fun r=>!(q r))):=by
      show _=_;rw[cU_ hs,hb,hm.out]
     have h2:Hid ((L.set i v).drop (j+1)=rows.drop (j+1)):=by
      show _=_;rw[List.drop_set_of_lt (by omega)];exact hL
     have qe:=hI2 _ _ hV hH;have hY:=aV_ hF hH;go_roundw
     case rel=>exact⟨i+1,j+1,L.set i v,by omega,by omega,by go_num,by go_num,Q1,hy,h2,qe,hY⟩
     case measure=>simp[intOf];omega
    ·rw[hQ] at hb;simp only[if_true,Yy] at hb;have hy:Hid (L.take i=(rows.take (j+1)).filter (fun r=>!(q r))):=by show _=_;rw[hb];exact hm.out
     clear V V2 hA hg hE hl R hp;go_wp2;go_roundw
     case rel=>exact⟨i,j+1,L,by omega,by omega,rfl,by go_num,R2,hy,hL,hV,hF⟩
     case measure=>simp[intOf];omega
   ·obtain rfl:j=n:=by omega
    have hs:i<=L.length:=by omega
    have he:Hid (L.take i=rows.filter (fun r=>!(q r))):=by show _=_;rw[hm.out,Zk (Zm hf.out)]
    rcases R.own with⟨h0,_⟩ | ⟨b',h6,hX,qb,h7,c,hc,hK,hb⟩
    ·cases h0
    cases h6
    have hC:i*2+(j-i)*2<=c.size:=by
     rw[hK,<-Yd];exact ZS _ (by omega)
    obtain⟨W2,c2,qg,hJ,hR,hS,h8⟩:=fy_ (P:=prog) wr 24 42 (.agg #[.int .i64 0,.string .empty]) underlying24 Tryz.zeroValue42 p6_ 2 rfl b (i*2) (j-i) (cap-i) c 42 hc hC
    have h5:Ad Ex.cs 2 42 W2 B (some ⟨b,0,none⟩) i cap (rows.filter (fun r=>!(q r))):=by
     refine bM_ aK_ hJ hX ?_ (by omega) h7 (by rw[hR,hK]) ?_
     ·rw[<-he.out,Zz];omega
     ·rw[hS,<-he.out,<-cq_ aK_,<-hb,List.take_take,ZZ (ZS _ (by omega))]
    have hZ:=aV_ hG h8;have qf:¬ (cap=i):=by omega
    have qh:(0:Int)<=i:=by omega
    have qk:(i:Int)<=(j:Int):=by omega
    clear hR hS hJ hc hb hm hx he R;go_wp2;go_returns;exact⟨i,rfl,h5,hZ⟩
def Ga (nb mb:Nat)(F:List Ct)(u:World):Prop:=u.cell? ⟨nb,0,none⟩=some (.map (some mb))∧∃ n,BE u mb n F
theorem gM_ (nb mb:Nat)(F:List Ct)(ex:List Ex)(hx:∀ x∈ex,(Lit.int .i64 x.a).wf=true):cr_ ex (Ga nb mb F) (.func (.func 139) #[] #[.pointer (some ⟨nb,0,none⟩)]) (fun r=>decide (Ck r.a F=0)):=by
 refine⟨_,_,rfl,fun x y u=>by kernel_rfl,fun u r hr hu=>?_⟩;obtain⟨hu,n,A⟩:=hu;have hA:Below u.heap.size u (u.alloc (.cells #[.int .i64 r.a,.string r.d] 42)):=(Yg _ _).alloc (Zd _) _;have r1:=(A.below hA).look (hx r hr);have h0:=Ab hA hu;clear A;go_enter func139,ntmps139;generalize Ck r.a F=Z at *;by_cases h:Z=0
 ·subst h;go_wp2;go_returns;exact⟨by simp,hA⟩
 ·go_wp2;go_returns;exact⟨by simp[h],hA⟩
theorem gY_ (I:World->Prop)(fv:Value)(q:Ex->Bool)(hq:cr_ [] I fv q)(hI:∀ u u',I u->Below u.heap.size u u'->I u')(w:World)(hw:I w):
  Calls prog 138 #[.slice none 0 0,fv] w fun e w'=>e=.returned (.slice none 0 0)∧Below w.heap.size w w':=by
 obtain⟨f,cp,rfl,ha,hq⟩:=hq;have hc:cr_ [] I (.func (.func f) #[] #[cp]) q:=⟨f,cp,rfl,ha,hq⟩;go_enter func138,ntmps138
 go_wp2_with fail
 refine (fj_ [] I (.func (.func f) #[] #[cp]) q hc hI none 0 0 w (aB_ (t:=42) (B:=0)).sl hw (by omega)).mono ?_;rintro e w1 ⟨rfl,hb⟩;simp only[List.findIdx?_nil,BX];go_wp2;go_returns;exact⟨rfl,hb⟩
theorem lX_ (F:List Ct)(ex:List Ex):ex.filter (fun r=>!(decide (Ck r.a F=0)))=ex.filter (fun e=>F.any (fun c=>c.o.a==e.a)):=by
 refine List.filter_congr fun e _=>?_;unfold Ck
 cases h:F.any (fun c=>c.o.a==e.a)
 ·have:F.countP (fun c=>c.o.a==e.a)=0:=by
   rw[List.countP_eq_zero];intro c hc
   have:=List.any_eq_false.1 h c hc
   simpa using this
  simp[this]
 ·have:F.countP (fun c=>c.o.a==e.a)≠0:=by
   intro h0;rw[List.countP_eq_zero] at h0;obtain⟨c,hc,ha⟩:=ZN.1 h;exact h0 c hc ha
  have h1:¬ ((F.countP (fun c=>c.o.a==e.a):Nat):Int)=0:=by omega
  rw[YV h1];rfl
theorem lY_ (B:Nat)(pb:Nat)(size next:Int)(ea:Option Addr)(en ec:Nat)(vv:Value)(ra:Option Addr)(rn rc:Nat)(la:Option Addr)(ln lc:Nat)(ex:List Ex)(rf lt F:List Ct)(w:World)(hBw:B<=w.heap.size)(hF:(Aq rf lt).getD []=F)(P:Blk w pb #[.int .i64 size,.int .i64 next,.slice ea en ec,vv,.slice ra rn rc,.slice la ln lc] 28)(RE:Ad Ex.cs 2 42 w B ea en ec ex)(RR:A4 w ra rn rf)(RL:A4 w la ln lt)(hs1:Bw rf)(hs2:Bw lt)(hrn:rn<=4194304)(hln:ln<=4194304)(hen:en<=4194304)(hFl:F.length<=200)(hFw:∀ c∈F,(Lit.int .i64 c.o.a).wf=true)(hxw:∀ x∈ex,(Lit.int .i64 x.a).wf=true):
  Calls prog 94 #[.pointer (some ⟨pb,0,none⟩)] w fun e w'=>e=.returned (.tuple #[])∧∃ ea' en' ec' ra' rn' rc',Blk w' pb #[.int .i64 size,.int .i64 next,.slice ea' en' ec',vv,.slice ra' rn' rc',.slice none 0 0] 28∧Ad Ex.cs 2 42 w' B ea' en' ec' (ex.filter (fun e=>F.any (fun c=>c.o.a==e.a)))∧Ad Ct.cs 4 46 w' B ra' rn' rc' F∧FrL (pb::AT ea) w w':=by
 have hX:=@run_makeMap prog;have hW:Below w.heap.size w w.drew:=(Yg _ _).drew;obtain⟨p0,p1,p2,p3,p4,p5⟩:=P.six';go_enter func94,ntmps94
 go_wp2_with fail
 have hU:(fun u=>u.cell? ⟨pb,5,none⟩=some (.slice la ln lc)) w.drew:=p5;refine aC_ (S:=(fun u=>u.cell? ⟨pb,5,none⟩=some (.slice la ln lc))) 16 (by kernel_rfl) rfl ?_;have q4:w.drew.cell? ⟨pb,4,none⟩=some (.slice ra rn rc):=p4;refine tk 0 ?_;refine tk 1 ?_;refine tk 2 ?_;refine tk 3 ?_;refine tk 5 ?_;refine tk 6 ?_;refine tk 7 ?_;refine tk 8 ?_;refine AW (i:=4) (by kernel_rfl) rfl (fun K hK=>?_);go_simp;refine hK.out _ _ p5 (fun hHeld=>?_);clear hK K
 try simp only[Act.put,lsA,lsB,lsC]
 refine AW (i:=9) (by kernel_rfl) rfl (fun K hK=>?_);go_simp;refine (fX_ ra rn rc rf la ln lc lt w.drew (RR.below hW) (RL.below hW) hs1 hs2 hrn hln).mono ?_;rintro e w1 ⟨ha,hc⟩;replace hc:Below w.heap.size w w1:=Aa hW hc
 obtain⟨fa,fn,fc,bk,rfl,h5,RF⟩:∃ fa fn fc bk,e=.returned (.tuple #[.slice fa fn fc,.bool bk])∧fn<=200∧Ad Ct.cs 4 46 w1 w.drew.heap.size fa fn fc F:=by
  cases hO:Aq rf lt with
  |none=>
   rw[hO] at ha hF;have hw:F=[]:=hF.symm;subst hw;exact⟨none,0,0,false,ha,by omega,aB_⟩
  |some L=>
   rw[hO] at ha hF;have hw:F=L:=hF.symm;subst hw;obtain⟨fa,fn,fc,he,h1,h2⟩:=ha;exact⟨fa,fn,fc,true,he,h1,h2⟩
 clear ha hF;have qb:w.drew.heap.size=w.heap.size:=rfl;replace P:=P.below hc;replace RE:=RE.below hc;have h9:=hc.size;clear p0 p1 p2 p3 p4 p5;dsimp only;obtain⟨p0,p1,p2,p3,p4,p5⟩:=P.six';have f4:=P.frozen 4;refine hK.out _ _ p5 (fun hHeld=>?_);clear hK K
 try simp only[Act.put,lsA,lsB,lsC]
 refine tk 10 ?_;refine tk 11 ?_;refine tk 12 ?_;refine tk 13 ?_;refine tk 14 ?_;refine AW (i:=15) (by kernel_rfl) rfl (fun K hK=>?_);go_simp;have hl:w1.grownBy (w1.setCell ⟨pb,4,none⟩ (.slice fa fn fc)) (some pb):=af_ (Yh _ _) _ _;have P2:=P.set 4 (.slice fa fn fc);simp only[Yj,Yq,Yr] at P2;have hC:=RE.ty hl (aa_ P) (by decide);have hE:=(RF.ty hl (aa_ P) (by decide)).mono (show B<=w.drew.heap.size by omega);have hG:=(FrL.of_below (bs:=pb::AT ea) hc).new (FrL.of_grown (bs:=[pb]) hl (fun k e=>.inl (by cases e;simp))) (fun k hk=>.inl (by simp at hk;subst hk;simp));have qa:w1.heap.size<=(w1.setCell ⟨pb,4,none⟩ (.slice fa fn fc)).heap.size:=hl.size;refine hK.out _ _ (P2.cell 5) (fun hHeld=>?_);clear hK K
 try simp only[Act.put,lsA,lsB,lsC]
 generalize w1.setCell ⟨pb,4,none⟩ (.slice fa fn fc)=w2 at *;refine wpAnyH_done (by kernel_rfl) ?_ _;clear hHeld hU RR RL p0 p1 p2 p3 p4 p5 f4 hl P RE RF q4 hc;obtain⟨p0,p1,p2,p3,p4,p5⟩:=P2.six';have f5:=P2.frozen 5;have P3:=P2.set 5 (.slice none 0 0);simp only[Yj,Yq,Yr] at P3;have r4:(((w2.setCell ⟨pb,5,none⟩ (.slice none 0 0)).alloc (.map #[] 0)).alloc (.cells #[.map (some w2.heap.size)] 222)).cell? ⟨pb,4,none⟩=some (.slice fa fn fc):=((P3.alloc _).alloc _).cell 4;clear P3
 go_wp2_with fail
 have hn:w2.grownBy (w2.setCell ⟨pb,5,none⟩ (.slice none 0 0)) (some pb):=af_ (Yh _ _) _ _;have P3:=P2.set 5 (.slice none 0 0);simp only[Yj,Yq,Yr] at P3;have hr:=hC.ty hn (aa_ P2) (by decide);have hm:=hE.ty hn (aa_ P2) (by decide);have hH:=hG.new (FrL.of_grown (bs:=[pb]) hn (fun k e=>.inl (by cases e;simp))) (fun k hk=>.inl (by simp at hk;subst hk;simp));have hq:w2.heap.size=(w2.setCell ⟨pb,5,none⟩ (.slice none 0 0)).heap.size:=by simp
 have hM:=BE.made (w2.setCell ⟨pb,5,none⟩ (.slice none 0 0));rw[<-hq] at hM;have hu:Below w2.heap.size (w2.setCell ⟨pb,5,none⟩ (.slice none 0 0)) (((w2.setCell ⟨pb,5,none⟩ (.slice none 0 0)).alloc (.map #[] 0)).alloc (.cells #[.map (some w2.heap.size)] 222)):=by rw[hq];exact ((Yg _ _).alloc (Zd _) _).alloc (by simp) _
 have hN:BE (((w2.setCell ⟨pb,5,none⟩ (.slice none 0 0)).alloc (.map #[] 0)).alloc (.cells #[.map (some w2.heap.size)] 222)) w2.heap.size 0 []:=hM.below ((Yg _ _).alloc (Zd _) _);have N3:Blk (((w2.setCell ⟨pb,5,none⟩ (.slice none 0 0)).alloc (.map #[] 0)).alloc (.cells #[.map (some w2.heap.size)] 222)) (w2.heap.size+1) #[.map (some w2.heap.size)] 222:=Blk.new' _ _ _ _ (by simp);clear hM hn hC hE hG P2 p0 p1 p2 p3 p4 p5 f5;generalize (((w2.setCell ⟨pb,5,none⟩ (.slice none 0 0)).alloc (.map #[] 0)).alloc (.cells #[.map (some w2.heap.size)] 222))=W4 at *;generalize w2.setCell ⟨pb,5,none⟩ (.slice none 0 0)=w3 at *;rw[hq] at hu;have hY:w2.heap.size<=w3.heap.size:=by omega
 have hZ:w3.heap.size<=w2.heap.size:=by omega
 clear hq hX hHeld r4 hs1 hs2;have nF:Hid (F.length=fn):=hm.sl.len
 go_loopw [29] (fun ix wr=>∃ (k:Nat),k<=fn∧ix=.int .i64 k∧BE wr w2.heap.size k (F.take k)∧Blk wr (w2.heap.size+1) #[.map (some w2.heap.size)] 222∧Below w3.heap.size w3 wr) (fun ix _=>fn-(intOf ix).toNat)
 case atStart=>exact⟨0,Zg _,rfl,hN,N3,hu⟩
 case round=>
  clear hN N3 hu;obtain⟨k,hk,rfl,A,N,hB⟩:=hrel;have h0:=hB.size;by_cases hlt:k<fn
  ·obtain⟨b,o,p,rfl,hp,c0,c1,c2,c3⟩:=aN_ (hm.sl.below hB) hlt;have hQ:=hFw p (Zc hp);have h6:(k:Int)<fn:=by omega
   have h7:(0:Int)<=k:=by omega
   have h8:(F.take k).length<=200:=by rw[Zz];omega
   have hP:Hid (F.take k++[p]=F.take (k+1)):=(bx_ hp).symm;have hV:=fY_ p.o.a (F.take k);have gW:wr.grownBy (wr.alloc (.cells #[.int .i64 p.o.a,.int .i64 p.o.v,.string p.o.f,.int .i64 p.n] 46)) (some w2.heap.size):=Yl wr _ _;have A1:BE (wr.alloc (.cells #[.int .i64 p.o.a,.int .i64 p.o.v,.string p.o.f,.int .i64 p.n] 46)) w2.heap.size k (F.take k):=A.kept (Yl wr _ none) (by simp);have z0:(wr.alloc (.cells #[.int .i64 p.o.a,.int .i64 p.o.v,.string p.o.f,.int .i64 p.n] 46)).cell? ⟨wr.heap.size,0,none⟩=some (.int .i64 p.o.a):=by simp
   have z1:(wr.alloc (.cells #[.int .i64 p.o.a,.int .i64 p.o.v,.string p.o.f,.int .i64 p.n] 46)).cell? ⟨w2.heap.size+1,0,none⟩=some (.map (some w2.heap.size)):=(N.alloc _).cell 0;have r1:=A1.look hQ;obtain⟨w5,r2,A2,g2⟩:=A1.bump (by unfold maxLen;omega) (by omega) hQ;have g3:wr.grownBy w5 (some w2.heap.size):=gW.andThen g2 (fun j hj=>by cases hj;exact .inr rfl);have hR:Below w3.heap.size w3 w5:=hB.grown g3 hB.size (fun j hj=>by cases hj;omega);have N5:Blk w5 (w2.heap.size+1) #[.map (some w2.heap.size)] 222:=(g3.block _ N.lt (by simp)).trans N;rw[hP.out] at A2;clear hp A A1 hP N gW g2 g3 h0;generalize Ck p.o.a (F.take k)=Z at *;obtain⟨h3,h4⟩:=hV;go_wp2;go_roundw
   case rel=>exact⟨k+1,by omega,by go_num,A2,N5,hR⟩
   case measure=>simp[intOf];omega
  ·obtain rfl:k=fn:=by omega
   rw[Zk (Zm nF.out)] at A;have P4:=P3.below hB;have hh:=hr.below hB;have hs:=hm.below hB;have hI:=hH.new (FrL.of_below (bs:=[]) hB) (fun k hk=>by simp at hk);have n0:wr.cell? ⟨w2.heap.size+1,0,none⟩=some (.map (some w2.heap.size)):=N.cell 0;have hL:Ga (w2.heap.size+1) w2.heap.size F wr:=⟨n0,_,A⟩;have hJ:∀ u u',Ga (w2.heap.size+1) w2.heap.size F u->Below u.heap.size u u'->Ga (w2.heap.size+1) w2.heap.size F u':=fun u u' h hb=>⟨Ab hb h.1,h.2.elim (fun n h=>⟨n,h.below hb⟩)⟩;have hS:∀ ad,ea=some ad->ad.block<w3.heap.size:=fun ad e=>(hr.block ad e).2;clear P3 hr hm hH A n0 N;obtain⟨p0,p1,p2,p3,p4,p5⟩:=P4.six';rcases hh.own with⟨rfl,rfl,rfl⟩ | ⟨eb,rfl,_⟩
   ·obtain rfl:ex=[]:=Zt hh.sl.len
    go_wp2_with fail
    refine (gY_ (Ga (w2.heap.size+1) w2.heap.size F) _ _ (gM_ (w2.heap.size+1) w2.heap.size F [] hxw) hJ wr hL).mono ?_;rintro e w6 ⟨rfl,hv⟩;replace P4:=P4.below hv;have ht:=hs.below hv;have f2:=P4.frozen 2;clear p0 p1 p2 p3 p4 p5;obtain⟨p0,p1,p2,p3,p4,p5⟩:=P4.six';go_wp2;go_returns;have hf:w6.grownBy (w6.setCell ⟨pb,2,none⟩ (.slice none 0 0)) (some pb):=af_ (Yh _ _) _ _;have P7:=P4.set 2 (.slice none 0 0);simp only[Yj,Yq,Yr] at P7;exact⟨rfl,none,0,0,fa,k,fc,P7,aB_,ht.ty hf (aa_ P4) (by decide),(hI.new (FrL.of_below (bs:=[]) hv) (fun k hk=>by simp at hk)).new (FrL.of_grown (bs:=[pb]) hf (fun k e=>.inl (by cases e;simp))) (fun k hk=>.inl (by simp at hk;subst hk;simp))⟩
   ·have hy:=hS _ rfl;simp only at hy;have hA:¬ (w2.heap.size+1=eb):=by omega
    have hz:¬ (w2.heap.size=eb):=by omega
    go_wp2_with fail
    refine (hW_ ex (Ga (w2.heap.size+1) w2.heap.size F) _ _ (gM_ (w2.heap.size+1) w2.heap.size F ex hxw) hJ B eb en ec (fun u u' h hg=>⟨hg.cell h.1 (by simpa using hA),h.2.elim (fun n h=>⟨n,h.kept hg (by simpa using hz)⟩)⟩) wr hh hL hen).mono ?_;rintro e w6 ⟨m,rfl,hD,ho⟩;obtain⟨cc,hx⟩:=hh.blkAt;have P6:=P4.ty ho (aa_ hx) (by decide);have ht:=hs.ty ho (aa_ hx) (by decide);have hT:=hI.new (FrL.of_grown (bs:=[eb]) ho (fun k e=>.inl (by cases e;simp))) (fun k hk=>.inl (by simp at hk;subst hk;simp[AT]));have f2:=P6.frozen 2;rw[lX_] at hD;clear p0 p1 p2 p3 p4 p5 hx ho P4 hs hh;obtain⟨p0,p1,p2,p3,p4,p5⟩:=P6.six';go_wp2;go_returns;have hf:w6.grownBy (w6.setCell ⟨pb,2,none⟩ (.slice (some ⟨eb,0,none⟩) m ec)) (some pb):=af_ (Yh _ _) _ _;have P7:=P6.set 2 (.slice (some ⟨eb,0,none⟩) m ec);simp only[Yj,Yq,Yr] at P7;exact⟨rfl,some ⟨eb,0,none⟩,m,ec,fa,k,fc,P7,hD.ty hf (aa_ P6) (by decide),ht.ty hf (aa_ P6) (by decide),hT.new (FrL.of_grown (bs:=[pb]) hf (fun k e=>.inl (by cases e;simp))) (fun k hk=>.inl (by simp at hk;subst hk;simp))⟩
theorem jz_ (b m:Nat)(f:Ow->Int)(a:Option Addr)(n cap:Nat)(l:List Ct)(w:World)(hT:AZ w b m f)(h:A4 w a n l)(hw:WfC l)(hn:n<=1000000)(hm:m<=1000000)(hb:∀ x∈l,-1000000<=x.n∧x.n<=1000000)(hf:∀ o,-1000000000000<=f o∧f o<=1000000000000):
  Calls prog 49 #[.map (some b),.slice a n cap] w fun e w'=>e=.returned (.tuple #[])∧AZ w' b (m+n) (fun o=>f o-tot o l)∧w.grownBy w' (some b):=by
 have hc:Hid (l.length=n):=h.len;go_enter func49,ntmps49
 go_wp2_with fail
 go_loopw [8] (fun ix wr=>∃ (k:Nat),k<=n∧ix=.int .i64 k∧AZ wr b (m+k) (fun o=>f o-tot o (l.take k))∧w.grownBy wr (some b)) (fun ix _=>n-(intOf ix).toNat)
 case atStart=>exact⟨0,Zg _,rfl,hT.congr (fun o=>by simp[tot]),⟨rfl,rfl,rfl,Zd _,fun _ _ _=>rfl⟩⟩
 case round=>
  obtain⟨k,hk,rfl,T2,hG⟩:=hrel;by_cases hlt:k<n
  ·obtain⟨bb,oo,p,rfl,hp,c0,c1,c2,c3⟩:=aN_ h hlt;have ha:=hT.apart c0;have d0:=hG.cell c0 (by simpa using ha);have d1:=hG.cell c1 (by simpa using ha);have d2:=hG.cell c2 (by simpa using ha);have d3:=hG.cell c3 (by simpa using ha);have hs:=hw p (Zc hp);have ho:=hb p (Zc hp);have he:=fh_ hp;have hg:=eR_ (M:=1000000) (by omega) (l:=l.take k) (fun x hx=>hb x (ZX hx));clear c0 c1 c2 c3
   go_wp2_with fail
   have z0:(wr.alloc (.cells #[.int .i64 p.o.a,.int .i64 p.o.v,.string p.o.f,.int .i64 p.n] 46)).cell? ⟨wr.heap.size,0,none⟩=some (.int .i64 p.o.a):=by simp
   have z1:(wr.alloc (.cells #[.int .i64 p.o.a,.int .i64 p.o.v,.string p.o.f,.int .i64 p.n] 46)).cell? ⟨wr.heap.size,1,none⟩=some (.int .i64 p.o.v):=by simp
   have z2:(wr.alloc (.cells #[.int .i64 p.o.a,.int .i64 p.o.v,.string p.o.f,.int .i64 p.n] 46)).cell? ⟨wr.heap.size,2,none⟩=some (.string p.o.f):=by simp
   have z3:(wr.alloc (.cells #[.int .i64 p.o.a,.int .i64 p.o.v,.string p.o.f,.int .i64 p.n] 46)).cell? ⟨wr.heap.size,3,none⟩=some (.int .i64 p.n):=by simp
   have hr:w.grownBy (wr.alloc (.cells #[.int .i64 p.o.a,.int .i64 p.o.v,.string p.o.f,.int .i64 p.n] 46)) (some b):=hG.andThen (Yl wr _ (some b)) (fun j hj=>by cases hj;exact .inr rfl);have T3:AZ (wr.alloc (.cells #[.int .i64 p.o.a,.int .i64 p.o.v,.string p.o.f,.int .i64 p.n] 46)) b (m+k) (fun o=>f o-tot o (l.take k)):=T2.kept (Yl wr _ none) (by simp);generalize wr.alloc (.cells #[.int .i64 p.o.a,.int .i64 p.o.v,.string p.o.f,.int .i64 p.n] 46)=W at *;have T4:AZ W.drew b (m+k) (fun o=>f o-tot o (l.take k)):=T3;obtain⟨st,w1,e1,e2,e3,g1,e4⟩:=T4.entry (by unfold maxLen;omega) hs;have hv:((l.take k).length:Int)<=n:=by simp;omega
   have hC:-3000000000000<=f p.o-tot p.o (l.take k)∧f p.o-tot p.o (l.take k)<=3000000000000:=by
    have h1:=hf p.o;have h2:=hg p.o;omega
   obtain⟨w3,e5,T5,g3⟩:=e4 (f p.o-tot p.o (l.take k)-p.n) (Yz (by omega));clear e4 T4 T3 T2 d0 d1 d2 d3 hg
   have hl:AZ w3 b (m+(k+1)) (fun o=>f o-tot o (l.take (k+1))):=T5.congr (fun o=>by
    rw[he o];split
    ·rename_i hh;rw[aM_.1 hh];omega
    ·omega)
   clear T5 he;generalize f p.o-tot p.o (l.take k)=C at *;obtain⟨ht,hu⟩:=hC;obtain⟨hy,hz⟩:=ho;have hq:w.grownBy w3 (some b):=(hr.andThen (row':=some b) (⟨rfl,rfl,rfl,Zd _,fun _ _ _=>rfl⟩:W.grownBy W.drew (some b)) (fun j hj=>by cases hj;exact .inr rfl)).andThen (row':=some b) g3 (fun j hj=>by cases hj;exact .inr rfl)
   go_region
   go_wp2;go_roundw
   case rel=>exact⟨k+1,by omega,by go_num,hl,hq⟩
   case measure=>simp[intOf];omega
  ·obtain rfl:k=n:=by omega
   go_wp2;go_returns;refine⟨rfl,?_,hG⟩;rw[Zk (by rw[hc.out];exact Zd _)] at T2;exact T2
def Gm (k:Int)(vol file tt into:ByteArray)(at' fr ln:Int)(data:ByteArray):Value:=
 if k=1 then .iface 152 (.agg #[.string vol]) else if k=7 then .iface 162 (.agg #[.string vol]) else if k=8 then .iface 165 (.agg #[.string vol]) else if k=6 then .iface 160 (.agg #[.string vol,.string tt]) else if k=2 then .iface 170 (.agg #[.string vol,.string file,.int .i64 at',.string data]) else if k=3 then .iface 176 (.agg #[.string vol,.string file,.int .i64 ln]) else if k=4 then .iface 182 (.agg #[.string vol,.string file]) else if k=10 then .iface 179 (.agg #[.string vol,.string file,.int .i64 at',.int .i64 ln]) else if k=5 then .iface 173 (.agg #[.string tt,.string into,.int .i64 at',.string vol,.string file,.int .i64 fr,.int .i64 (fr+ln)]) else
 .iface 155 (.agg #[])
theorem jA_ (k:Int)(vol file tt into:ByteArray)(at' fr ln:Int)(data:ByteArray)(w:World)(hfl:k=5->0<=fr∧fr<=1000000000∧0<=ln∧ln<=1000000000):
  Calls prog 47 #[.agg #[.int .i64 k,.string vol,.string file,.string tt,.string into,.int .i64 at',.int .i64 fr,.int .i64 ln,.string data]] w fun e w'=>e=.returned (Gm k vol file tt into at' fr ln data)∧Below w.heap.size w w':=by
 by_cases h1:k=1
 ·subst h1;go_enter func47,ntmps47;go_wp2;go_returns;exact⟨rfl,by go_grown⟩
 by_cases h7:k=7
 ·subst h7;go_enter func47,ntmps47;go_wp2;go_returns;exact⟨rfl,by go_grown⟩
 by_cases h8:k=8
 ·subst h8;go_enter func47,ntmps47;go_wp2;go_returns;exact⟨rfl,by go_grown⟩
 by_cases h6:k=6
 ·subst h6;go_enter func47,ntmps47;go_wp2;go_returns;exact⟨rfl,by go_grown⟩
 by_cases h2:k=2
 ·subst h2;go_enter func47,ntmps47;go_wp2;go_returns;exact⟨rfl,by go_grown⟩
 by_cases h3:k=3
 ·subst h3;go_enter func47,ntmps47;go_wp2;go_returns;exact⟨rfl,by go_grown⟩
 by_cases h4:k=4
 ·subst h4;go_enter func47,ntmps47;go_wp2;go_returns;exact⟨rfl,by go_grown⟩
 by_cases h10:k=10
 ·subst h10;go_enter func47,ntmps47;go_wp2;go_returns;exact⟨rfl,by go_grown⟩
 by_cases h5:k=5
 ·subst h5;obtain⟨q1,q2,q3,q4⟩:=hfl rfl;go_enter func47,ntmps47;go_wp2;go_returns;exact⟨rfl,by go_grown⟩
 have hE:Gm k vol file tt into at' fr ln data=.iface 155 (.agg #[]):=by unfold Gm;simp only[h1,h7,h8,h6,h2,h3,h4,h10,h5,if_false]
 rw[hE];clear hE;go_enter func47,ntmps47;go_wp2;go_returns;exact⟨rfl,by go_grown⟩
theorem e1_ (x0:Value)(w:World):(method 408 152 (.agg #[x0]) "loop.example/g00336/impl.volume").run prog w=.ok (210,.agg #[]) w:=by kernel_rfl
theorem ew_ (x0:Value)(w:World):(method 408 152 (.agg #[x0]) "loop.example/g00336/impl.changes").run prog w=.ok (209,.agg #[]) w:=by kernel_rfl
theorem e2_ (x0:Value)(w:World):(method 408 162 (.agg #[x0]) "loop.example/g00336/impl.volume").run prog w=.ok (212,.agg #[x0]) w:=by kernel_rfl
theorem ex_ (x0:Value)(w:World):(method 408 162 (.agg #[x0]) "loop.example/g00336/impl.changes").run prog w=.ok (211,.agg #[x0]) w:=by kernel_rfl
theorem fz_ (x0:Value)(w:World):(method 408 165 (.agg #[x0]) "loop.example/g00336/impl.volume").run prog w=.ok (212,.agg #[x0]) w:=by kernel_rfl
theorem e3_ (x0:Value)(w:World):(method 408 165 (.agg #[x0]) "loop.example/g00336/impl.changes").run prog w=.ok (211,.agg #[x0]) w:=by kernel_rfl
theorem e4_ (x0 x1:Value)(w:World):(method 408 160 (.agg #[x0,x1]) "loop.example/g00336/impl.volume").run prog w=.ok (212,.agg #[x0]) w:=by kernel_rfl
theorem ey_ (x0 x1:Value)(w:World):(method 408 160 (.agg #[x0,x1]) "loop.example/g00336/impl.changes").run prog w=.ok (211,.agg #[x0]) w:=by kernel_rfl
theorem ez_ (x0 x1 x2 x3:Value)(w:World):(method 408 170 (.agg #[x0,x1,x2,x3]) "loop.example/g00336/impl.volume").run prog w=.ok (214,.agg #[x0,x1]) w:=by kernel_rfl
theorem d6_ (x0 x1 x2 x3:Value)(w:World):(method 408 170 (.agg #[x0,x1,x2,x3]) "loop.example/g00336/impl.changes").run prog w=.ok (213,.agg #[x0,x1]) w:=by kernel_rfl
theorem fA_ (x0 x1 x2:Value)(w:World):(method 408 176 (.agg #[x0,x1,x2]) "loop.example/g00336/impl.volume").run prog w=.ok (214,.agg #[x0,x1]) w:=by kernel_rfl
theorem e5_ (x0 x1 x2:Value)(w:World):(method 408 176 (.agg #[x0,x1,x2]) "loop.example/g00336/impl.changes").run prog w=.ok (213,.agg #[x0,x1]) w:=by kernel_rfl
theorem d7_ (x0 x1:Value)(w:World):(method 408 182 (.agg #[x0,x1]) "loop.example/g00336/impl.volume").run prog w=.ok (214,.agg #[x0,x1]) w:=by kernel_rfl
theorem dH_ (x0 x1:Value)(w:World):(method 408 182 (.agg #[x0,x1]) "loop.example/g00336/impl.changes").run prog w=.ok (213,.agg #[x0,x1]) w:=by kernel_rfl
theorem eA_ (x0 x1 x2 x3:Value)(w:World):(method 408 179 (.agg #[x0,x1,x2,x3]) "loop.example/g00336/impl.volume").run prog w=.ok (214,.agg #[x0,x1]) w:=by kernel_rfl
theorem d8_ (x0 x1 x2 x3:Value)(w:World):(method 408 179 (.agg #[x0,x1,x2,x3]) "loop.example/g00336/impl.changes").run prog w=.ok (213,.agg #[x0,x1]) w:=by kernel_rfl
theorem e6_ (x0 x1 x2 x3 x4 x5 x6:Value)(w:World):(method 408 173 (.agg #[x0,x1,x2,x3,x4,x5,x6]) "loop.example/g00336/impl.volume").run prog w=.ok (214,.agg #[x0,x1]) w:=by kernel_rfl
theorem eB_ (x0 x1 x2 x3 x4 x5 x6:Value)(w:World):(method 408 173 (.agg #[x0,x1,x2,x3,x4,x5,x6]) "loop.example/g00336/impl.changes").run prog w=.ok (213,.agg #[x0,x1]) w:=by kernel_rfl
theorem eC_ (w:World):(method 408 155 (.agg #[]) "loop.example/g00336/impl.volume").run prog w=.ok (210,.agg #[]) w:=by kernel_rfl
theorem d9_ (w:World):(method 408 155 (.agg #[]) "loop.example/g00336/impl.changes").run prog w=.ok (209,.agg #[]) w:=by kernel_rfl
theorem df_ (x:Value)(w:World):(callFunc 210 #[x]).run prog w=.ok (.enter 210 #[x]) w:=by kernel_rfl
theorem bG_ (w:World):Calls prog 210 #[.agg #[]] w fun e w'=>e=.returned (.string .empty)∧Below w.heap.size w w':=by
 go_enter func210,ntmps210;go_wp2;go_returns;exact⟨rfl,by go_grown⟩
theorem cN_ (x:Value)(w:World):(callFunc 209 #[x]).run prog w=.ok (.enter 209 #[x]) w:=by kernel_rfl
theorem cO_ (w:World):Calls prog 209 #[.agg #[]] w fun e w'=>e=.returned (.bool false)∧Below w.heap.size w w':=by
 go_enter func209,ntmps209;go_wp2;go_returns;exact⟨rfl,by go_grown⟩
theorem bQ_ (x:Value)(w:World):(callFunc 212 #[x]).run prog w=.ok (.enter 212 #[x]) w:=by kernel_rfl
theorem aP_ (s0:ByteArray)(w:World):Calls prog 212 #[.agg #[.string s0]] w fun e w'=>e=.returned (.string s0)∧Below w.heap.size w w':=by
 go_enter func212,ntmps212;go_wp2;go_returns;exact⟨rfl,by go_grown⟩
theorem bJ_ (x:Value)(w:World):(callFunc 211 #[x]).run prog w=.ok (.enter 211 #[x]) w:=by kernel_rfl
theorem bK_ (s0:ByteArray)(w:World):Calls prog 211 #[.agg #[.string s0]] w fun e w'=>e=.returned (.bool false)∧Below w.heap.size w w':=by
 go_enter func211,ntmps211;go_wp2;go_returns;exact⟨rfl,by go_grown⟩
theorem bj_ (x:Value)(w:World):(callFunc 214 #[x]).run prog w=.ok (.enter 214 #[x]) w:=by kernel_rfl
theorem aD_ (s0 s1:ByteArray)(w:World):Calls prog 214 #[.agg #[.string s0,.string s1]] w fun e w'=>e=.returned (.string s0)∧Below w.heap.size w w':=by
 go_enter func214,ntmps214;go_wp2;go_returns;exact⟨rfl,by go_grown⟩
theorem bc_ (x:Value)(w:World):(callFunc 213 #[x]).run prog w=.ok (.enter 213 #[x]) w:=by kernel_rfl
theorem bd_ (s0 s1:ByteArray)(w:World):Calls prog 213 #[.agg #[.string s0,.string s1]] w fun e w'=>e=.returned (.bool true)∧Below w.heap.size w w':=by
 go_enter func213,ntmps213;go_wp2;go_returns;exact⟨rfl,by go_grown⟩
def Oth (w:World)(bs:List Nat)(t:TypeId):Prop:=∀ k∈bs,∃ c t',Blk w k c t'∧t'≠t
theorem Ad.frlT {cs:α->List Value}{sz:Nat}{cap:Nat}{a:Option Addr}(h:Ad cs sz t w B a n cap l)(hf:FrL bs w w')(ho:Oth w bs t):Ad cs sz t w' B a n cap l:=by
 refine h.frl hf (fun ad e hm=>?_);obtain⟨c',t',ha,hb⟩:=ho _ hm;rcases h.own with⟨h0,_⟩ | ⟨b,h1,_,_,_,c,h5,_⟩
 ·rw[h0] at e;cases e
 ·rw[h1] at e
  cases e
  exact bD_ ha h5 hb
theorem Blk.frlT {c:Array Value}(h:Blk w b c t)(hf:FrL bs w w')(ho:Oth w bs t):Blk w' b c t:=h.frl hf (fun hm=>by
 obtain⟨c',t',ha,hb⟩:=ho _ hm;exact bD_ ha h hb)
theorem BU.frlT {r:IR}{y:It}(h:BU B w r y)(hf:FrL bs w w')(ho:Oth w bs 146):BU B w' r y:=⟨h.nm,h.ps.frlT hf ho⟩
theorem Bd.frl (h:Bd B w r y)(hf:FrL bs w w')(ho:Oth w bs 146)(hb:∀ ad,r.pa=some ad->ad.block∉bs):Bd B w' r y:=by
 obtain⟨e1,e2,e3,rs,R,T⟩:=h;exact⟨e1,e2,e3,rs,R.frl hf hb,T.len,fun i r y h1 h2=>(T.at' i r y h1 h2).frlT hf ho⟩
def PoB (B pb:Nat)(w:World)(p:Po):Prop:=∃ ea en ec va vn vc ra rn rc la ln lc rows,Blk w pb #[.int .i64 p.size,.int .i64 p.next,.slice ea en ec,.slice va vn vc,.slice ra rn rc,.slice la ln lc] 28∧Ad Ex.cs 2 42 w B ea en ec p.ex∧Ad vrs 4 38 w B va vn vc rows∧Ax B w rows p.vs∧Ad Ct.cs 4 46 w B ra rn rc p.rf∧Ad Ct.cs 4 46 w B la ln lc p.lt∧(∀ x y,ra=some x->la=some y->0<rc->0<lc->x.block≠y.block)∧Cw rows∧NP w rows
theorem FrL.low (h:FrL bs w w')(hb:∀ k∈bs,B<=k)(hB:B<=w.heap.size):Below B w w':=
 ⟨h.os,h.tape,h.output,h.size,fun k hk=>h.block k (by omega) (fun hm=>by have:=hb k hm;omega)⟩
theorem eU_ (F:Foc B vb vn vc i rows r y w)(h1:(38:TypeId)≠t)(h2:(134:TypeId)≠t):Oth w (vb::AT r.pa) t:=by
 intro k hk;rcases Zn.1 hk with rfl | hk
 ·obtain⟨c,hc⟩:=F.rv.blkAt;exact⟨c,_,hc,h1⟩
 ·obtain⟨x,ha,hb⟩:=aO_.1 hk;obtain⟨rs,R,_⟩:=F.v.its;rcases R.own with⟨h0,_⟩ | ⟨b,e,_,_,_,c,hc,_⟩
  ·rw[h0] at ha;cases ha
  ·rw[e] at ha
   cases ha
   simp only at hb;subst hb;exact⟨c,_,hc,h2⟩
theorem lZ_ (F:Foc B vb vn vc i rows r y w):∀ k∈vb::AT r.pa,B<=k:=by
 intro k hk;rcases Zn.1 hk with rfl | hk
 ·exact (F.rv.block _ rfl).1
 ·obtain⟨x,ha,hb⟩:=aO_.1 hk;obtain⟨rs,R,_⟩:=F.v.its
  have:=(R.block x ha).1
  omega
end Go.Proofs.YtdmeabghpchckaaGreatDoor
