/- What is done to one file's parts: holes and ends. -/
import Derived.Test.YtahenegmbmnmjaaGreatDoorU17
set_option maxHeartbeats 20000000
set_option maxRecDepth 100000
namespace Go.Proofs.YtahenegmbmnmjaaGreatDoor
section
open Go Go.RowKit Go.BigFrame
variable{rows:List VR}{B i vb vc vn:Nat}{t:TypeId}{r:VR}{y:Vo}{w w':World}
theorem lW_ (S:Addr->Prop)(B:Nat)(h0:0<B)(pb vb vn vc i:Nat)(size next:Int)(ea:Option Addr)(en ec:Nat)(vv rv lv:Value)(ex:List Ex)(rows:List VR)(r:VR)(y:Vo)(vol file:ByteArray)(at':Int)(d:ByteArray)(w:World)(hBw:B<=w.heap.size)(hglob:11<=pb)(P:Blk w pb #[.int .i64 size,.int .i64 next,.slice ea en ec,vv,rv,lv] 35)(RE:Ae Ex.cs 2 76 w B ea en ec ex)(hex:BS ex)(hel:ex.length<=4194304)(hd:d.size<=1000000)(F:Foc B vb vn vc i rows r y w)(hS:BR S w):
  Calls Tryz.prog 177 #[.pointer (some ⟨pb,0,none⟩),.pointer (some ⟨vb,i*4,none⟩),.agg #[.string vol,.string file,.int .i64 at',.string d]] w fun e w'=>H5 S B pb vb vn vc i size next vv rv lv rows r y w e w' (Cj size ex y file at' d):=by
 have hR:Hid (Cj size ex y file at' d=match AW size ex d with | none=>.inl 5 | some (L,x)=>match Bw y file ((AP y file).getD []) at' [⟨x,0,d.size⟩] with | .inl c=>.inl c | .inr its=>.inr (L,its)):=rfl;generalize Cj size ex y file at' d=R at *;have hO:en<=4194304:=by rw[<-RE.sl.len];exact hel
 obtain⟨rs0,hh,_⟩:=F.v.its;have hy:∀ rs,AF irs 2 w r.pa r.pn rs->rs=rs0:=fun rs h=>co_ h hh.sl;obtain⟨W0,ho⟩:∃ W,W=w.alloc (.cells #[.string vol,.string file,.int .i64 at',.string d] 245):=⟨_,rfl⟩;have hz:Below w.heap.size w W0:=by rw[ho];exact (Yg _ _).alloc (Zd _) _
 have Xb:Blk W0 w.heap.size #[.string vol,.string file,.int .i64 at',.string d] 245:=by rw[ho];exact Blk.new _ _ _
 go_enter Tryz.func177,Tryz.ntmps177
 go_wp2_with fail
 rw[<-ho];clear ho;have hW:Below W0.heap.size W0 W0.drew:=(Yg _ _).drew;have hC:=Aa hz hW;replace F:=F.below hC;replace hh:=hh.below hC;replace hS:=hS.below hC;replace P:=P.below hC;replace RE:=RE.below hC;replace Xb:=Xb.below hW;have h8:=hC.size;obtain⟨p0,p1,p2,p3,p4,p5⟩:=P.six';have xd:W0.drew.cell? ⟨w.heap.size,3,none⟩=some (.string d):=Xb.cell 3;clear hz;have hZ:(fun u=>u.cell? ⟨pb,0,none⟩=some (.int .i64 size)∧u.cell? ⟨pb,2,none⟩=some (.slice ea en ec)∧u.cell? ⟨w.heap.size,3,none⟩=some (.string d)) W0.drew:=⟨p0,p2,xd⟩;refine aC_ (S:=(fun u=>u.cell? ⟨pb,0,none⟩=some (.int .i64 size)∧u.cell? ⟨pb,2,none⟩=some (.slice ea en ec)∧u.cell? ⟨w.heap.size,3,none⟩=some (.string d))) 18 (by kernel_rfl) rfl ?_;generalize W0.drew=u0 at *;refine tk 0 ?_;refine tk 1 ?_;refine tk 2 ?_;refine tk 3 ?_;refine tk 4 ?_;refine tk 5 ?_;refine tk 6 ?_;refine tk 7 ?_;refine tk 8 ?_;refine tk 9 ?_;refine AX (i:=10) (by kernel_rfl) rfl (fun K hK=>?_);go_simp;obtain⟨hH,hI,hJ⟩:=oH_ RE;refine (jy_ size ea en ec ex d u0 RE.sl hex hO hI hJ (by omega) hH (fun ad _ e=>(RE.block ad e).2)).mono ?_;rintro e u1 ⟨hq,hg⟩;have hB:=Aa hC hg;replace F:=F.below hg;replace hh:=hh.below hg;replace hS:=hS.below hg;replace P:=P.below hg;replace Xb:=Xb.below hg;clear p0 p1 p2 p3 p4 p5 xd;obtain⟨p0,p1,p2,p3,p4,p5⟩:=P.six';obtain⟨x0,x1,x2,x3⟩:=Xb.four;have h5:=hg.size
 cases hj:AW size ex d with
 |none=>
  rw[hj] at hq;obtain rfl:=hq;dsimp only;refine hK.out _ _ ⟨p0,p2,x3⟩ (fun hHeld=>?_);clear hK K
  try simp only[Act.put,lsA,lsB,lsC]
  refine tk 11 ?_;refine tk 12 ?_;refine tk 13 ?_;refine tk 14 ?_;refine tk 15 ?_;refine tk 16 ?_;refine tk 17 ?_;refine wpAnyH_done (by kernel_rfl) ?_ _;obtain⟨er,hT,hX⟩:=hS.room;have g:u1.cell? ⟨7,0,none⟩=_:=hT;go_wp2;go_returns;rw[hR.out,hj];exact⟨⟨er,hX,rfl⟩,FrL.of_below hB⟩
 |some Lx=>
  obtain⟨L,x⟩:=Lx;rw[hj] at hq;obtain⟨ea',en',ec',rfl,RL⟩:=hq;dsimp only;refine hK.out _ _ ⟨p0,p2,x3⟩ (fun hHeld=>?_);clear hK K
  try simp only[Act.put,lsA,lsB,lsC]
  refine tk 11 ?_;refine tk 12 ?_;refine tk 13 ?_;refine tk 14 ?_;refine tk 15 ?_;refine tk 16 ?_;refine tk 17 ?_;refine wpAnyH_done (by kernel_rfl) ?_ _;have f2:=P.frozen 2
  go_wp2_with fail
  have hc:u1.grownBy (u1.setCell ⟨pb,2,none⟩ (.slice ea' en' ec')) (some pb):=af_ (Yh _ _) _ _;have P2:=P.set 2 (.slice ea' en' ec');simp only[Yj,Yq,Yr] at P2;have F2:=F.tyP hc (aa_ P);have hs:=hh.ty hc (aa_ P) (by decide);have hn:=(RL.ty hc (aa_ P) (by decide)).mono (show B<=u0.heap.size by omega);have X2:=Xb.ty hc (aa_ P) (by decide);have ht:=(FrL.of_below (bs:=pb::vb::AU r.pa) hB).new (FrL.of_grown (bs:=[pb]) hc (fun k e=>.inl (by cases e;simp))) (fun k hk=>.inl (by simp at hk;subst hk;simp));have hu:BR S (u1.setCell ⟨pb,2,none⟩ (.slice ea' en' ec')):=hS.grown hc hglob;have h6:u1.heap.size<=(u1.setCell ⟨pb,2,none⟩ (.slice ea' en' ec')).heap.size:=hc.size;generalize u1.setCell ⟨pb,2,none⟩ (.slice ea' en' ec')=w2 at *;clear p0 p1 p2 p3 p4 p5 x0 x1 x2 x3 f2 hc;refine (bv_ B vb (i*4) h0 y file w2 (F2.v.at F2.rv F2.hi) (by have:=F2.len;omega) F2.str).mono ?_;rintro e w3 ⟨ha,hb⟩;replace P2:=P2.below hb;replace F2:=F2.below hb;replace hs:=hs.below hb;replace hn:=hn.below hb;replace X2:=X2.below hb;replace hu:=hu.below hb;replace ht:=ht.new (FrL.of_below (bs:=[]) hb) (fun k hk=>by simp at hk);have h7:=hb.size;change De B e w3 (AP y file) at ha
  obtain⟨pa,pn,pc,bk,rfl,hN,hM,hL⟩:∃ pa pn pc bk,e=.returned (.tuple #[.slice pa pn pc,.bool bk])∧AN w3 pa pn ((AP y file).getD [])∧pn<=4194304∧∀ ad,pa=some ad->ad.block<w3.heap.size:=by
   cases hf:AP y file with
   |none=>rw[hf] at ha;exact⟨none,0,0,false,ha,(aB_ (t:=201) (B:=0)).sl,by omega,fun ad e=>by cases e⟩
   |some l=>
    rw[hf] at ha;obtain⟨pa,pn,pc,he,h1,h2,h3,h4⟩:=ha;exact⟨pa,pn,pc,true,he,h1,by rw[<-h1.len];exact h3,h4⟩
  clear ha hb;obtain⟨x0,x1,x2,x3⟩:=X2.four;obtain⟨ep,hP,hV⟩:=hu.parts
  go_wp2_with fail
  have hA:Below w3.heap.size w3 (w3.alloc (.cells #[.int .i64 x,.int .i64 0,.int .i64 (d.size:Int)] 201)):=(Yg _ _).alloc (Zd _) _;have hQ:AN (w3.alloc (.cells #[.int .i64 x,.int .i64 0,.int .i64 (d.size:Int)] 201)) (some ⟨w3.heap.size,0,none⟩) 1 [⟨x,0,d.size⟩]:=jo_ (⟨x,0,d.size⟩:Pt) (Blk.new w3 #[.int .i64 x,.int .i64 0,.int .i64 (d.size:Int)] 201) rfl;refine (Dt B vb vn vc i rows r y file pa pn pc ((AP y file).getD []) at' (some ⟨w3.heap.size,0,none⟩) 1 1 [⟨x,0,d.size⟩] ep _ (by have:=hA.size;omega) (F2.below hA) (hN.below hA) hM (fun ad e=>Zy (hL ad e) hA.size) hQ (by omega) (fun ad e=>by cases e;simp) (hP.below hA)).mono ?_;rintro e w4 hx;have hD:=ht.new (FrL.of_below (bs:=[]) hA) (fun k hk=>by simp at hk)
  have hY:¬ pb=vb:=by
   obtain⟨cv,hv⟩:=F2.rv.blkAt;intro e;rw[e] at P2;unfold Blk at P2 hv;rw[P2] at hv;injection hv with q;injection q with _ q2
   exact absurd q2 (by decide)
  rcases hx with⟨hl,rfl,hG⟩ | ⟨ps,hl,rfl,r',h1,h2,h3,h4⟩
  ·unfold BL;go_wp2;go_returns;rw[hR.out,hj];have hw:Bw y file ((AP y file).getD []) at' [⟨x,0,d.size⟩]=.inl 5:=by unfold Bw;rw[hl]
   simp only[hw];exact⟨⟨ep,hV,rfl⟩,hD.new (FrL.of_below (bs:=[]) hG) (fun k hk=>by simp at hk)⟩
  ·have P4:=(P2.below hA).frl h3 (by
    intro hm;rcases Zn.1 hm with h | h
    ·exact hY h
    ·obtain⟨xx,hr,hE⟩:=aO_.1 h;obtain⟨rs,RI,_⟩:=F2.v.its;rcases RI.own with⟨q0,_⟩ | ⟨bb,q0,_,_,_,cc,hp,_⟩
     ·rw[q0] at hr;cases hr
     ·rw[q0] at hr
      cases hr
      simp only at hE;rw[hE] at hp;unfold Blk at P2 hp;rw[P2] at hp;injection hp with q;injection q with _ q2
      exact absurd q2 (by decide))
   have hF:=(hn.below hA).frl h3 (fun ad e hm=>qs_ F2 hn e hm);go_wp2;go_returns;rw[hR.out,hj];have hw:Bw y file ((AP y file).getD []) at' [⟨x,0,d.size⟩]=.inr (Ba ⟨file,ps⟩ y.its):=by unfold Bw;rw[hl]
   simp only[hw];exact⟨rfl,ea',en',ec',r',P4,hF,h1,h2,hD.new h3 (fun k hk=>.inl (ZY _ hk)),⟨fun ad e=>(h4.1 ad e).imp id (fun q=>by have:=hA.size;omega),fun rs hU=>by rw[hy rs hU];exact (h4.2 rs0 (hs.below hA).sl).mono (by have:=hA.size;omega)⟩⟩
end
section
open Go Go.RowKit Go.BigFrame Tryz
variable{α:Type}{bs:List Nat}{rows:List VR}{vs:List Vo}{B b ec en i lc n pb rc rn vb vc vn:Nat}{ea la ra:Option Addr}{p:Po}{t:TypeId}{r r':VR}{y:Vo}{w w':World}{l:List α}{x:α}
def BV (vb:Nat):Option Nat->Value
 |none=>.pointer none
 |some i=>.pointer (some ⟨vb,i*4,none⟩)
theorem kL_ {D:DataW Unit}(hO:w.ownsMap prog 9 (A6 vb) b vn D)(hV:DT D 0 vs)(hnd:(vs.map (·.nm.toList)).Nodup)(s:ByteArray)(hs:s.size<=1048576):(Instr.lookup 131 (.map (some b)) (.string s) false).run prog w=.ok (BV vb (volI vs s)) w:=by
 have hg:∀ u:World,(zeroValue 122).run prog u=.ok (.pointer none) u:=fun u=>by kernel_rfl
 rcases oB_ hO keyed9 underlying131 (hg w) (HQ (s:=s) (by unfold maxLen;omega)) with⟨ha,he⟩ | ⟨val,y,ha,hc,hb,hf⟩
 ·rw[hV.has] at he;rw[ha,nz_ he];rfl
 ·obtain⟨o,rfl,hy⟩:=eu_ hc;obtain⟨i,x,hi,rfl,rfl⟩:=hP_ hV hnd hb hc hf;rw[ha,pH_ hnd hi];simp only[BV,Zq]
theorem iW_ (B:Nat)(size next:Int)(ea:Option Addr)(en ec:Nat)(va:Option Addr)(vn vc:Nat)(ra:Option Addr)(rn rc:Nat)(la:Option Addr)(ln lc:Nat)(vb:Nat)(rows:List VR)(vs:List Vo)(hva:0<vn->va=some ⟨vb,0,none⟩)(w:World)(RV:Ae vrs 4 62 w B va vn vc rows)(T:Ay B w rows vs)(hvn:vn<=4194304)(hst:DS vs)(hnd:(vs.map (·.nm.toList)).Nodup):
  Calls prog 87 #[.agg #[.int .i64 size,.int .i64 next,.slice ea en ec,.slice va vn vc,.slice ra rn rc,.slice la ln lc]] w fun x w'=>(∃ b,x=.returned (.map (some b))∧∀ s:ByteArray,s.size<=1048576->(Instr.lookup 131 (.map (some b)) (.string s) false).run prog w'=.ok (BV vb (volI vs s)) w')∧Below w.heap.size w w':=by
 refine (bC_ B size next ea en ec va vn vc ra rn rc la ln lc vs vb 0 hva w (Cc.vs RV T.rows) hvn hst).mono ?_;rintro e w' ⟨⟨b,D,rfl,_,hO,hV⟩,hB⟩;exact⟨⟨b,rfl,fun s hs=>kL_ hO hV hnd s hs⟩,hB⟩
def CF (vs:List Vo)(y:Vo)(into:ByteArray)(at':Int)(sv sf:ByteArray)(fr tz:Int):Int⊕List It:=match (volI vs sv).bind (fun j=>vs[j]?) with
 |none=>.inl 3
 |some u=>match AP u sf with
  |none=>.inl 3
  |some l=>match AZ l fr tz with
   |none=>.inl 3
   |some q=>Bw y into ((AP y into).getD []) at' q
theorem it_ (S:Addr->Prop)(B:Nat)(h0:0<B)(pb vb vn vc i:Nat)(size next:Int)(ea:Option Addr)(en ec:Nat)(ra:Option Addr)(rn rc:Nat)(la:Option Addr)(ln lc:Nat)(vs:List Vo)(rows:List VR)(r:VR)(y:Vo)(vol into:ByteArray)(at':Int)(sv sf:ByteArray)(fr tz:Int)(w:World)(hBw:B<=w.heap.size)(P:Blk w pb #[.int .i64 size,.int .i64 next,.slice ea en ec,.slice (some ⟨vb,0,none⟩) vn vc,.slice ra rn rc,.slice la ln lc] 35)(T:Ay B w rows vs)(hvn:vn<=4194304)(hst:DS vs)(hnd:(vs.map (·.nm.toList)).Nodup)(hsv:sv.size<=1048576)(F:Foc B vb vn vc i rows r y w)(hS:BR S w):
  Calls prog 178 #[.pointer (some ⟨pb,0,none⟩),.pointer (some ⟨vb,i*4,none⟩),.agg #[.string vol,.string into,.int .i64 at',.string sv,.string sf,.int .i64 fr,.int .i64 tz]] w fun e w'=>Gp S B vb vn vc i rows r y w e w' (CF vs y into at' sv sf fr tz):=by
 have hR:Hid (CF vs y into at' sv sf fr tz=match (volI vs sv).bind (fun j=>vs[j]?) with | none=>.inl 3 | some u=>match AP u sf with | none=>.inl 3 | some l=>match AZ l fr tz with | none=>.inl 3 | some q=>Bw y into ((AP y into).getD []) at' q):=rfl;generalize CF vs y into at' sv sf fr tz=R at *;obtain⟨W0,hp⟩:∃ W,W=w.alloc (.cells #[.string vol,.string into,.int .i64 at',.string sv,.string sf,.int .i64 fr,.int .i64 tz] 248):=⟨_,rfl⟩;have hw:Below w.heap.size w W0:=by rw[hp];exact (Yg _ _).alloc (Zd _) _
 have Xb:Blk W0 w.heap.size #[.string vol,.string into,.int .i64 at',.string sv,.string sf,.int .i64 fr,.int .i64 tz] 248:=by rw[hp];exact Blk.new _ _ _
 go_enter func178,ntmps178
 go_wp2_with fail
 rw[<-hp];clear hp;have hW:Below W0.heap.size W0 W0.drew:=(Yg _ _).drew;have hC:=Aa hw hW;replace F:=F.below hC;replace hS:=hS.below hC;replace P:=P.below hC;replace T:=T.below hC;replace Xb:=Xb.below hW;have hZ:=hC.size;have p:=P.six';have xd:W0.drew.cell? ⟨w.heap.size,3,none⟩=some (.string sv):=Xb.cell 3;clear hw;have hF:(fun u=>(u.cell? ⟨pb,0,none⟩=some (.int .i64 size)∧u.cell? ⟨pb,1,none⟩=some (.int .i64 next)∧u.cell? ⟨pb,2,none⟩=some (.slice ea en ec)∧u.cell? ⟨pb,3,none⟩=some (.slice (some ⟨vb,0,none⟩) vn vc)∧u.cell? ⟨pb,4,none⟩=some (.slice ra rn rc)∧u.cell? ⟨pb,5,none⟩=some (.slice la ln lc))∧u.cell? ⟨w.heap.size,3,none⟩=some (.string sv)) W0.drew:=⟨p,xd⟩;refine aC_ (S:=(fun u=>(u.cell? ⟨pb,0,none⟩=some (.int .i64 size)∧u.cell? ⟨pb,1,none⟩=some (.int .i64 next)∧u.cell? ⟨pb,2,none⟩=some (.slice ea en ec)∧u.cell? ⟨pb,3,none⟩=some (.slice (some ⟨vb,0,none⟩) vn vc)∧u.cell? ⟨pb,4,none⟩=some (.slice ra rn rc)∧u.cell? ⟨pb,5,none⟩=some (.slice la ln lc))∧u.cell? ⟨w.heap.size,3,none⟩=some (.string sv))) 9 (by kernel_rfl) rfl ?_;generalize W0.drew=u0 at *;refine tk 0 ?_;refine tk 1 ?_;refine tk 2 ?_;refine tk 4 ?_;refine tk 5 ?_;refine tk 6 ?_;refine AX (i:=3) (by kernel_rfl) rfl (fun K hK=>?_);go_simp;refine (iW_ B size next ea en ec (some ⟨vb,0,none⟩) vn vc ra rn rc la ln lc vb rows vs (fun _=>rfl) u0 F.rv T hvn hst hnd).mono ?_;rintro e u1 ⟨⟨mb,rfl,hz⟩,hb⟩;have hl:=hz sv hsv;clear hz;obtain⟨o,hn⟩:∃ o,Hid (volI vs sv=o):=⟨_,rfl⟩;rw[hn.out] at hl;replace hC:=Aa hC hb;replace F:=F.below hb;replace hS:=hS.below hb;replace T:=T.below hb;replace P:=P.below hb;replace Xb:=Xb.below hb;have hU:=hb.size;clear hb p xd;have p:=P.six';have xd:u1.cell? ⟨w.heap.size,3,none⟩=some (.string sv):=Xb.cell 3;dsimp only;refine hK.out _ _ ⟨p,xd⟩ (fun hHeld=>?_);clear hK K
 try simp only[Act.put,lsA,lsB,lsC]
 refine AX (i:=7) (by kernel_rfl) rfl (fun K hK=>?_);go_simp;refine hK.out _ _ ⟨p,xd⟩ (fun hHeld=>?_);clear hK K
 try simp only[Act.put,lsA,lsB,lsC]
 refine tk 8 ?_;refine wpAnyH_done (by kernel_rfl) ?_ _;clear hHeld hl p xd hW hF;obtain⟨x0,x1,x2,x3,x4,x5,x6⟩:u1.cell? ⟨w.heap.size,0,none⟩=some (.string vol)∧u1.cell? ⟨w.heap.size,1,none⟩=some (.string into)∧u1.cell? ⟨w.heap.size,2,none⟩=some (.int .i64 at')∧u1.cell? ⟨w.heap.size,3,none⟩=some (.string sv)∧u1.cell? ⟨w.heap.size,4,none⟩=some (.string sf)∧u1.cell? ⟨w.heap.size,5,none⟩=some (.int .i64 fr)∧u1.cell? ⟨w.heap.size,6,none⟩=some (.int .i64 tz):=⟨Xb.cell 0,Xb.cell 1,Xb.cell 2,Xb.cell 3,Xb.cell 4,Xb.cell 5,Xb.cell 6⟩
 cases o with
 |none=>
  dsimp only[BV];obtain⟨ev,hJ,hv⟩:=hS.volume;have g:u1.cell? ⟨4,0,none⟩=_:=hJ;go_wp2;go_returns;rw[hR.out,hn.out];exact⟨⟨ev,hv,rfl⟩,hC⟩
 |some j=>
  dsimp only[BV];have ht:=ap_ hn.out;obtain⟨u,hu⟩:∃ u,vs[j]?=some u:=⟨vs[j],by simp[ht]⟩;obtain⟨q,hq⟩:∃ q,rows[j]?=some q:=⟨rows[j]'(by rw[T.len];exact ht),by simp⟩;have VQ:=(T.at' j q u hq hu).at F.rv hq
  have ho:Hid (R=match AP u sf with | none=>.inl 3 | some l=>match AZ l fr tz with | none=>.inl 3 | some q=>Bw y into ((AP y into).getD []) at' q):=by
   show _=_;rw[hR.out,hn.out,YO,hu]
  clear hR hn;obtain⟨m1,m2,m3⟩:=hst u (Zc hu);clear hu hq ht
  go_wp2_with fail
  refine (bv_ B vb (j*4) h0 u sf u1 VQ m2 m3).mono ?_;rintro e w2 ⟨ha,hh⟩;replace hC:=Aa hC hh;replace F:=F.below hh;replace hS:=hS.below hh;replace Xb:=Xb.below hh;have hV:=hh.size;clear hh x0 x1 x2 x3 x4 x5 x6 VQ;obtain⟨x0,x1,x2,x3,x4,x5,x6⟩:w2.cell? ⟨w.heap.size,0,none⟩=some (.string vol)∧w2.cell? ⟨w.heap.size,1,none⟩=some (.string into)∧w2.cell? ⟨w.heap.size,2,none⟩=some (.int .i64 at')∧w2.cell? ⟨w.heap.size,3,none⟩=some (.string sv)∧w2.cell? ⟨w.heap.size,4,none⟩=some (.string sf)∧w2.cell? ⟨w.heap.size,5,none⟩=some (.int .i64 fr)∧w2.cell? ⟨w.heap.size,6,none⟩=some (.int .i64 tz):=⟨Xb.cell 0,Xb.cell 1,Xb.cell 2,Xb.cell 3,Xb.cell 4,Xb.cell 5,Xb.cell 6⟩;change De B e w2 (AP u sf) at ha
  cases hf:AP u sf with
  |none=>
   rw[hf] at ha;obtain rfl:=ha;obtain⟨ef,hH,hO⟩:=hS.file;have g:w2.cell? ⟨8,0,none⟩=_:=hH;go_wp2;go_returns;rw[ho.out,hf];exact⟨⟨ef,hO,rfl⟩,hC⟩
  |some l=>
   rw[hf] at ha;obtain⟨pa,pn,pc,rfl,hP,hT,hE,hx⟩:=ha;have hM:pn<=4194304:=by rw[<-hP.len];exact hE
   go_wp2_with fail
   refine (hp_ pa pn pc l fr tz w2 hP hM hx).mono ?_;rintro e w3 ⟨hr,hj⟩;replace hC:=Aa hC hj;replace F:=F.below hj;replace hS:=hS.below hj;replace Xb:=Xb.below hj;have hX:=hj.size;clear hj x0 x1 x2 x3 x4 x5 x6 hP hx;obtain⟨x0,x1,x2,x3,x4,x5,x6⟩:w3.cell? ⟨w.heap.size,0,none⟩=some (.string vol)∧w3.cell? ⟨w.heap.size,1,none⟩=some (.string into)∧w3.cell? ⟨w.heap.size,2,none⟩=some (.int .i64 at')∧w3.cell? ⟨w.heap.size,3,none⟩=some (.string sv)∧w3.cell? ⟨w.heap.size,4,none⟩=some (.string sf)∧w3.cell? ⟨w.heap.size,5,none⟩=some (.int .i64 fr)∧w3.cell? ⟨w.heap.size,6,none⟩=some (.int .i64 tz):=⟨Xb.cell 0,Xb.cell 1,Xb.cell 2,Xb.cell 3,Xb.cell 4,Xb.cell 5,Xb.cell 6⟩
   cases hm:AZ l fr tz with
   |none=>
    rw[hm] at hr;obtain rfl:=hr;obtain⟨eb,hG,hN⟩:=hS.bytes;have g:w3.cell? ⟨9,0,none⟩=_:=hG;go_wp2;go_returns;rw[ho.out,hf];simp only[hm];exact⟨⟨eb,hN,rfl⟩,hC⟩
   |some Q=>
    have hs:=hU_ l fr tz;rw[hm] at hr hs;simp only[Yw] at hs;obtain⟨ka,kn,kc,rfl,RK⟩:=hr;have hL:kn<=4194304:=by rw[<-RK.sl.len];omega
    have hy:Hid (R=Bw y into ((AP y into).getD []) at' Q):=by
     show _=_;rw[ho.out,hf];simp only[hm]
    clear ho hf hm hs
    go_wp2_with fail
    refine (bv_ B vb (i*4) h0 y into w3 (F.v.at F.rv F.hi) (by have:=F.len;omega) F.str).mono ?_;rintro e w4 ⟨ha,hc⟩;replace hC:=Aa hC hc;replace F:=F.below hc;replace hS:=hS.below hc;replace Xb:=Xb.below hc;replace RK:=RK.below hc;have hY:=hc.size;clear hc x0 x1 x2 x3 x4 x5 x6;obtain⟨x0,x1,x2,x3,x4,x5,x6⟩:w4.cell? ⟨w.heap.size,0,none⟩=some (.string vol)∧w4.cell? ⟨w.heap.size,1,none⟩=some (.string into)∧w4.cell? ⟨w.heap.size,2,none⟩=some (.int .i64 at')∧w4.cell? ⟨w.heap.size,3,none⟩=some (.string sv)∧w4.cell? ⟨w.heap.size,4,none⟩=some (.string sf)∧w4.cell? ⟨w.heap.size,5,none⟩=some (.int .i64 fr)∧w4.cell? ⟨w.heap.size,6,none⟩=some (.int .i64 tz):=⟨Xb.cell 0,Xb.cell 1,Xb.cell 2,Xb.cell 3,Xb.cell 4,Xb.cell 5,Xb.cell 6⟩;change De B e w4 (AP y into) at ha
    obtain⟨da,dn,dc,bk,rfl,hD,hB,hA⟩:∃ pa pn pc bk,e=.returned (.tuple #[.slice pa pn pc,.bool bk])∧AN w4 pa pn ((AP y into).getD [])∧pn<=4194304∧∀ ad,pa=some ad->ad.block<w4.heap.size:=by
     cases hf:AP y into with
     |none=>rw[hf] at ha;exact⟨none,0,0,false,ha,(aB_ (t:=201) (B:=0)).sl,by omega,fun ad e=>by cases e⟩
     |some l=>
      rw[hf] at ha;obtain⟨pa,pn,pc,he,h1,h2,h3,h4⟩:=ha;exact⟨pa,pn,pc,true,he,h1,by rw[<-h1.len];exact h3,h4⟩
    clear ha;obtain⟨ep,hI,hQ⟩:=hS.parts
    go_wp2_with fail
    refine (Dt B vb vn vc i rows r y into da dn dc ((AP y into).getD []) at' ka kn kc Q ep w4 (by omega) F hD hB hA RK.sl hL (fun ad e=>(RK.block ad e).2) hI).mono ?_;rintro e w5 hk;have hg:=gp_ (file:=into) hQ hC hk;rcases hk with⟨_,rfl,_⟩ | ⟨ps,_,rfl,_⟩
    ·unfold BL at hg ⊢;go_wp2;go_returns;rw[hy.out];exact hg
    ·go_wp2;go_returns;rw[hy.out];exact hg
def H3 (S:Addr->Prop)(B pb:Nat)(size next:Int)(ea:Option Addr)(en ec:Nat)(va:Option Addr)(vn:Nat)(ra:Option Addr)(rn rc:Nat)(la:Option Addr)(ln lc:Nat)(vs:List Vo)(rows:List VR)(name:ByteArray)(its:List It)(w:World)(e:Ending)(w':World):Option Nat->Prop
 |some _=>(∃ a,S a∧e=.returned (BL 4 a))∧Below w.heap.size w w'
 |none=>e=.returned .nilIface∧∃ va' vc' rows',Blk w' pb #[.int .i64 size,.int .i64 (next+1),.slice ea en ec,.slice va' (vn+1) vc',.slice ra rn rc,.slice la ln lc] 35∧Ae vrs 4 62 w' B va' (vn+1) vc' rows'∧Ay B w' rows' (vs++[⟨next,name,false,its⟩])∧FrL (pb::AU va) w w'∧∃ r',rows'=rows++[r']∧(∀ ad,r'.pa=some ad->w.heap.size<=ad.block)∧(pbk w' r').Nodup∧∀ z∈pbk w' r',w.heap.size<=z
theorem ev_ (S:Addr->Prop)(B:Nat)(h0:0<B)(pb:Nat)(size next:Int)(ea:Option Addr)(en ec:Nat)(va:Option Addr)(vn vc:Nat)(ra:Option Addr)(rn rc:Nat)(la:Option Addr)(ln lc:Nat)(vb:Nat)(vs:List Vo)(rows:List VR)(name:ByteArray)(qa:Option Addr)(qn qc:Nat)(its:List It)(w:World)(hva:0<vn->va=some ⟨vb,0,none⟩)(hBw:B<=w.heap.size)(P:Blk w pb #[.int .i64 size,.int .i64 next,.slice ea en ec,.slice va vn vc,.slice ra rn rc,.slice la ln lc] 35)(RV:Ae vrs 4 62 w B va vn vc rows)(T:Ay B w rows vs)(hvn:vn<=4194304)(hst:DS vs)(hnd:(vs.map (·.nm.toList)).Nodup)(hnm:name.size<=1048576)(hn1:0<=next)(hn2:next<=4611686018427387904)(hI:Bg B w qa qn its)(hH:Hd B qa qn qc)(hqn:qn<=4194304)(hqp:∀ y∈its,y.ps.length<=4194304)(hS:BR S w):
  Calls prog 172 #[.pointer (some ⟨pb,0,none⟩),.string name,.slice qa qn qc] w fun e w'=>H3 S B pb size next ea en ec va vn ra rn rc la ln lc vs rows name its w e w' (volI vs name):=by
 obtain⟨o,ho⟩:∃ o,Hid (volI vs name=o):=⟨_,rfl⟩;rw[ho.out];have p:=P.six';obtain⟨p0,p1,p2,p3,p4,p5⟩:=p;go_enter func172,ntmps172
 go_wp2_with fail
 refine (iW_ B size next ea en ec va vn vc ra rn rc la ln lc vb rows vs hva w RV T hvn hst hnd).mono ?_;rintro e w1 ⟨⟨mb,rfl,hp⟩,hb⟩;have ha:=hp name hnm;clear hp p0 p1 p2 p3 p4 p5;rw[ho.out] at ha;clear ho;replace RV:=RV.below hb;replace T:=T.below hb;replace P:=P.below hb;replace hS:=hS.below hb;replace hI:=hI.below hb;have hx:=hb.size
 cases o with
 |some j=>
  dsimp only[BV] at ha;obtain⟨et,ht,hl⟩:=hS.there;have g:w1.cell? ⟨6,0,none⟩=_:=ht;go_wp2;go_returns;exact⟨⟨et,hl,rfl⟩,hb⟩
 |none=>
  dsimp only[BV] at ha;obtain⟨p0,p1,p2,p3,p4,p5⟩:=P.six'
  go_wp2_with fail
  clear ha;have hW:Below w1.heap.size w1 w1.drew:=(Yg _ _).drew;have hs:(fun u=>u.cell? ⟨pb,1,none⟩=some (.int .i64 next)∧u.cell? ⟨pb,3,none⟩=some (.slice va vn vc)) w1.drew:=⟨p1,p3⟩;refine ar_ (S:=(fun u=>u.cell? ⟨pb,1,none⟩=some (.int .i64 next)∧u.cell? ⟨pb,3,none⟩=some (.slice va vn vc))) 17 (by kernel_rfl) (by kernel_rfl) ?_;refine tk 0 ?_;refine tk 1 ?_;refine tk 2 ?_;refine tk 3 ?_;refine tk 4 ?_;refine tk 5 ?_;refine tk 6 ?_;refine tk 7 ?_;refine tk 8 ?_;refine tk 9 ?_;refine tk 10 ?_;refine AX (i:=11) (by kernel_rfl) rfl (fun K hK=>?_);go_simp;refine (er_ B h0 qa qn qc its w1.drew (hI.below hW) hH hqn hqp).mono ?_;rintro e w2 ⟨⟨a2,c2,rows2,rfl,R2,T2,N2⟩,he⟩;replace he:Below w1.heap.size w1 w2:=Aa hW he;have hB:w1.drew.heap.size=w1.heap.size:=rfl;replace P:=P.below he;replace RV:=RV.below he;replace T:=T.below he;have hj:=Aa hb he;have hw:w1.drew.heap.size=w1.heap.size:=rfl;have hu:∀ ad,a2=some ad->w.heap.size<=ad.block:=fun ad e=>by have:=(R2.block ad e).1;omega
  have hv:∀ z∈bkI rows2,w.heap.size<=z:=fun z hz=>by
   obtain⟨i,q,x,h1,h2,rfl⟩:=jn_ hz;have hi:i<its.length:=by rw[<-T2.len];exact (Zb.1 h1).1
   have:=((T2.at' i q its[i] h1 (by simp[hi])).ps.block x h2).1
   omega
  have hy:=he.size;clear p0 p1 p2 p3 p4 p5 hI hS;dsimp only;refine hK.out _ _ ⟨P.cell 1,P.cell 3⟩ (fun hHeld=>?_);clear hK K
  try simp only[Act.put,lsA,lsB,lsC]
  refine tk 12 ?_;refine AX (i:=13) (by kernel_rfl) rfl (fun K hK=>?_);go_simp;have hc:Below w2.heap.size w2 (w2.alloc (.cells #[.int .i64 next,.string name,.bool false,.slice a2 qn c2] 62)):=(Yg _ _).alloc (Zd _) _;have N3:AF vrs 4 (w2.alloc (.cells #[.int .i64 next,.string name,.bool false,.slice a2 qn c2] 62)) (some ⟨w2.heap.size,0,none⟩) 1 [(⟨next,name,false,a2,qn,c2⟩:VR)]:=fQ_ w2 (⟨next,name,false,a2,qn,c2⟩:VR) _ _ rfl;replace P:=P.below hc;replace RV:=RV.below hc;replace T:=T.below hc;replace R2:=R2.below hc;replace T2:=T2.below hc;replace hj:=Aa hj hc;have hA:=hc.size;refine hK.out _ _ ⟨P.cell 1,P.cell 3⟩ (fun hHeld=>?_);clear hK K
  try simp only[Act.put,lsA,lsB,lsC]
  generalize w2.alloc (.cells #[.int .i64 next,.string name,.bool false,.slice a2 qn c2] 62)=w3 at *;refine AX (i:=14) (by kernel_rfl) rfl (fun K hK=>?_);refine aJ_ rfl (dC_ _ _ rfl B va vn vc rows rfl RV (some ⟨w2.heap.size,0,none⟩) 1 1 [(⟨next,name,false,a2,qn,c2⟩:VR)] rfl N3 (fun ad h=>(by cases h;rfl)) (fun h=>(by cases h)) (vn+1) rfl (by omega) (by omega) (fun va' vc' w4 R4 hf=>?_));have hg:=RV.rowTy (m:=vn) (k:=vc);have P4:=P.ty hf hg (by decide);have T4:=T.ty hf hg (by decide) (by decide);have hm:=(R2.ty hf hg (by decide)).mono (show B<=w1.drew.heap.size by omega);have hn:=(T2.ty hf hg (by decide)).mono (show B<=w1.drew.heap.size by omega);have hr:=(FrL.of_below (bs:=pb::AU va) hj).new (FrL.of_grown (bs:=AU va) hf (fun k e=>.inl (gm_ e))) (fun k hk=>.inl (ZY _ hk));have V4:=T4.snoc (y:=⟨next,name,false,its⟩) (r:=(⟨next,name,false,a2,qn,c2⟩:VR)) ⟨rfl,rfl,rfl,rows2,hm,hn⟩;refine hK.out _ _ ⟨P4.cell 1,P4.cell 3⟩ (fun hHeld=>?_);clear hK K
  try simp only[Act.put,lsA,lsB,lsC]
  refine tk 15 ?_;refine tk 16 ?_;refine wpAnyH_done (by kernel_rfl) ?_ _;refine BK rfl ?_;clear hHeld hs P RV T R2 T2 hn T4 N3 hg hf hW;obtain⟨p0,p1,p2,p3,p4,p5⟩:=P4.six';have f3:=P4.frozen 3;have f1:=P4.frozen 1;go_wp2;go_returns;have hh:w4.grownBy ((w4.setCell ⟨pb,3,none⟩ (.slice va' (vn+1) vc')).setCell ⟨pb,1,none⟩ (.int .i64 (next+1))) (some pb):=af_ (af_ (Yh _ _) _ _) _ _;have P5:=(P4.set 3 (.slice va' (vn+1) vc')).set 1 (.int .i64 (next+1));simp only[Yj,Yq,Yr] at P5;have hq:pbk ((w4.setCell ⟨pb,3,none⟩ (.slice va' (vn+1) vc')).setCell ⟨pb,1,none⟩ (.int .i64 (next+1))) ⟨next,name,false,a2,qn,c2⟩=bkI rows2:=cv_ (r:=⟨next,name,false,a2,qn,c2⟩) (hm.ty hh (aa_ P4) (by decide)).sl;exact⟨rfl,va',vc',_,P5,R4.ty hh (aa_ P4) (by decide),V4.ty hh (aa_ P4) (by decide) (by decide),hr.new (FrL.of_grown (bs:=[pb]) hh (fun k e=>.inl (by cases e;simp))) (fun k hk=>.inl (by simp at hk;subst hk;simp)),_,rfl,hu,by rw[hq];exact N2,by rw[hq];exact hv⟩
def cr_ (rows:List Ex)(I:World->Prop)(fv:Value)(q:Ex->Bool):Prop:=∃ f cp,fv=.func (.func f) #[] #[cp]∧(∀ (x y:Value) (u:World),(callFunc f #[x,y]).run prog u=.ok (.enter f #[x,y]) u)∧∀ (u:World) (r:Ex),r∈rows->I u->Calls prog f #[.agg #[.int .i64 r.a,.string r.d],cp] u fun e w'=>e=.returned (.bool (q r))∧Below u.heap.size u w'
theorem fj_ (rows:List Ex)(I:World->Prop)(fv:Value)(q:Ex->Bool)(hq:cr_ rows I fv q)(hI:∀ u u',I u->Below u.heap.size u u'->I u')(a:Option Addr)(n cap:Nat)(w:World)(h:AF Ex.cs 2 w a n rows)(hw:I w)(hn:n<=4194304):
  Calls prog 227 #[.slice a n cap,fv] w fun e w'=>e=.returned (.int .i64 (B5 (rows.findIdx? q)))∧Below w.heap.size w w':=by
 obtain⟨f,cp,rfl,hh,hq⟩:=hq;have hb:Hid (rows.length=n):=h.len;have hR:Hid ((B5 (rows.findIdx? q))=B5 (((rows.drop 0).findIdx? q).map (fun j:Nat=>j+0))):=by show _=_;simp
 generalize (B5 (rows.findIdx? q))=R at *;go_enter func227,ntmps227
 go_wp2_with fail
 go_loopw [5,8] (fun _ ix wr=>∃ (k:Nat),k<=n∧ix=.int .i64 k∧Hid (R=B5 (((rows.drop k).findIdx? q).map (fun j:Nat=>j+k)))∧Below w.heap.size w wr) (fun _ ix _=>n-(intOf ix).toNat)
 case atStart=>exact⟨0,Zg _,rfl,hR,Yg _ _⟩
 case round=>
  clear hR;obtain⟨k,hk,rfl,he,hB⟩:=hrel;by_cases hlt:k<n
  ·have hl:(k:Int)<n:=by omega
   have hm:(0:Int)<=k:=by omega
   have hj:k<rows.length:=by rw[hb.out];exact hlt
   obtain⟨r,hr⟩:∃ r,rows[k]?=some r:=⟨rows[k],by simp[hj]⟩;obtain⟨b,o,rfl,hc⟩:=(h.below hB).cell k r hr;have x0:wr.cell? ⟨b,o+k*2,none⟩=some (.int .i64 r.a):=hc 0 _ rfl;have x1:wr.cell? ⟨b,o+k*2+1,none⟩=some (.string r.d):=hc 1 _ rfl
   have ha:Hid (R=B5 (if q r=true then some k else ((rows.drop (k+1)).findIdx? q).map (fun j:Nat=>j+(k+1)))):=by
    show _=_;rw[he.out,al_ hr,List.findIdx?_cons]
    cases q r
    ·simp only[Zj,if_false]
     cases (rows.drop (k+1)).findIdx? q with
     |none=>rfl
     |some j=>simp only[Option.map_some];congr 2;omega
    ·simp
   clear he
   go_wp2_with fail
   refine (hq wr r (Zc hr) (hI _ _ hw hB)).mono ?_;rintro e w2 ⟨rfl,hg⟩;have hC:=Aa hB hg
   cases hf:q r
   ·rw[hf] at ha;simp only[Zj,if_false] at ha;go_wp2;go_roundw
    case rel=>exact⟨k+1,by omega,by go_num,ha,hC⟩
    case measure=>simp[intOf];omega
   ·rw[hf] at ha;simp only[if_true] at ha;go_wp2;go_returns;exact⟨by rw[ha.out]<;>rfl,hC⟩
  ·obtain rfl:k=n:=by omega
   go_wp2;go_returns;exact⟨by rw[he.out,Ze (Zm hb.out)];rfl,hB⟩
theorem p6_:∀ m,∀ u∈(Builtin.zeroCells (.agg #[.int .i64 0,.string .empty]:Value).cells m).toList,u.oneCell'=true:=by
 intro m u hu;simp only[Builtin.zeroCells,Array.toList_map,ZT] at hu;obtain⟨j,_,rfl⟩:=hu;have h:j % 2<2:=Nat.mod_lt _ (by decide);show ((.agg #[.int .i64 0,.string .empty]:Value).cells[j % 2]!).oneCell'=true;generalize j % 2=k at h
 match k,h with
 |0,_=>rfl
 |1,_=>rfl
theorem hW_ (rows:List Ex)(I:World->Prop)(fv:Value)(q:Ex->Bool)(hq:cr_ rows I fv q)(hI:∀ u u',I u->Below u.heap.size u u'->I u')(B b n cap:Nat)(hI2:∀ u u',I u->u.grownBy u' (some b)->I u')(w:World)(R:Ae Ex.cs 2 76 w B (some ⟨b,0,none⟩) n cap rows)(hw:I w)(hn:n<=4194304):
  Calls prog 212 #[.slice (some ⟨b,0,none⟩) n cap,fv] w fun e w'=>∃ m,e=.returned (.slice (some ⟨b,0,none⟩) m cap)∧Ae Ex.cs 2 76 w' B (some ⟨b,0,none⟩) m cap (rows.filter (fun r=>!(q r)))∧w.grownBy w' (some b):=by
 have hf:Hid (rows.length=n):=R.sl.len
 have qo:n<=cap∧cap<=9223372036854775807:=by
  rcases R.own with⟨h0,_⟩ | ⟨b',h1,_,h3,h4,_⟩
  ·cases h0
  ·unfold maxLen at h4;omega
 obtain⟨f,cp,rfl,hB,hq⟩:=hq;have qc:cr_ rows I (.func (.func f) #[] #[cp]) q:=⟨f,cp,rfl,hB,hq⟩;go_enter func212,ntmps212
 go_wp2_with fail
 refine (fj_ rows I (.func (.func f) #[] #[cp]) q qc hI (some ⟨b,0,none⟩) n cap w R.sl hw hn).mono ?_;rintro e w1 ⟨rfl,ht⟩;have hU:=hI _ _ hw ht;replace R:=R.below ht;have hu:w.grownBy w1 (some b):=au_ (Yh _ _) ht
 cases hM:rows.findIdx? q with
 |none=>
  have hh:rows.filter (fun r=>!(q r))=rows:=by
   rw[YA];intro r hr
   have:=YL.1 hM r hr
   simpa using this
  unfold B5;go_wp2;go_returns;rw[hh];exact⟨n,rfl,R,hu⟩
 |some k0=>
  obtain⟨hN,hO,hP⟩:=ZA.1 hM;have hD:k0<n:=by rw[<-hf.out];exact hN
  have hk:Hid (rows.take k0=(rows.take (k0+1)).filter (fun r=>!(q r))):=by
   show _=_
   have h1:(rows.take k0).filter (fun r=>!(q r))=rows.take k0:=by
    rw[YA];intro a ha;obtain⟨j,hj,rfl⟩:=List.mem_take_iff_getElem.1 ha
    have:=hP j (by omega)
    simpa using this
   rw[ZK,YR,h1,ZI hN];simp[hO]
  unfold B5;have hz:¬ ((k0:Int)=-1):=by omega
  have qq:((k0:Int)==-1)=false:=by rw[ZV];omega
  go_wp2_with fail
  go_loopw [5,6] (fun vi vj wr=>∃ (i j:Nat) (L:List Ex),i<j∧j<=n∧vi=.int .i64 i∧vj=.int .i64 j∧Ae Ex.cs 2 76 wr B (some ⟨b,0,none⟩) n cap L∧Hid (L.take i=(rows.take j).filter (fun r=>!(q r)))∧Hid (L.drop j=rows.drop j)∧I wr∧w.grownBy wr (some b)) (fun _ vj _=>n-(intOf vj).toNat)
  case atStart=>exact⟨k0,k0+1,rows,ZB _,hD,rfl,rfl,R,hk,rfl,hU,hu⟩
  case round=>
   clear R hU hu hk hO hP;obtain⟨i,j,L,ql,hj,rfl,rfl,R,hm,hx,hW,hG⟩:=hrel;have qa:L.length=n:=R.sl.len;by_cases hlt:j<n
   ·have qm:(j:Int)<n:=by omega
    have qn:(0:Int)<=j:=by omega
    have qi:(i:Int)<n:=by omega
    have qj:(0:Int)<=i:=by omega
    have h9:j<rows.length:=by rw[hf.out];exact hlt
    obtain⟨v,hv⟩:∃ v,rows[j]?=some v:=⟨rows[j],by simp[h9]⟩
    have hT:L[j]?=some v:=by
     have h1:(L.drop j)[0]?=(rows.drop j)[0]?:=by rw[hx.out]
     simpa[hv] using h1
    have hL:L.drop (j+1)=rows.drop (j+1):=by
     have h1:(L.drop j).drop 1=(rows.drop j).drop 1:=by rw[hx.out]
     simpa[List.drop_drop,Nat.add_comm] using h1
    have hb:(rows.take (j+1)).filter (fun r=>!(q r))=(rows.take j).filter (fun r=>!(q r))++(if q v=true then [] else [v]):=by
     rw[ZK,hv,YR];simp only[Option.toList_some,ZH,List.filter_nil]
     cases q v<;>simp
    have x0:wr.cell? ⟨b,j*2,none⟩=some (.int .i64 v.a):=R.cellAt (j:=0) hT rfl;have x1:wr.cell? ⟨b,j*2+1,none⟩=some (.string v.d):=R.cellAt (j:=1) hT rfl
    go_wp2_with fail
    have hA:Below wr.heap.size wr (wr.alloc (.cells #[.int .i64 v.a,.string v.d] 76)):=(Yg _ _).alloc (Zd _) _;have V:=Blk.new wr #[.int .i64 v.a,.string v.d] 76;have hE:=hI _ _ hW hA;refine (hq _ v (Zc hv) hE).mono ?_;rintro e w2 ⟨rfl,hl⟩;have hg:=Aa hA hl;have R2:=R.below hg;have V2:=V.below hl;have hV:=hI _ _ hW hg;have hF:=au_ hG hg;have qp:¬ wr.heap.size=b:=by have:=(R.block _ rfl).2;simp only at this;omega
    have qd:¬ b=wr.heap.size:=by omega
    obtain⟨cc,hp⟩:=R2.blkAt;have y0:w2.cell? ⟨wr.heap.size,0,none⟩=some (.int .i64 v.a):=V2.cell 0;have y1:w2.cell? ⟨wr.heap.size,1,none⟩=some (.string v.d):=V2.cell 1
    cases hQ:q v
    ·rw[hQ] at hb;simp only[Zj,if_false] at hb;have hs:i<L.length:=by omega
     obtain⟨o,ho⟩:∃ o,L[i]?=some o:=⟨L[i],by simp[hs]⟩;have z0:w2.cell? ⟨b,i*2,none⟩=some (.int .i64 o.a):=R2.cellAt (j:=0) ho rfl;have f0:=hp.frozen (i*2);have z1:w2.cell? ⟨b,i*2+1,none⟩=some (.string o.d):=R2.cellAt (j:=1) ho rfl;have f1:=hp.frozen (i*2+1);clear V V2 hA hg hE hl R hp qa x0 x1;go_wp2;have Q0:=R2.set1 (x':=⟨v.a,o.d⟩) (v:=.int .i64 v.a) aK_ (i:=i) (j:=0) (l:=L) (x:=o) (ho) (by decide) rfl;have Q1:=Q0.set1 (x':=v) (v:=.string v.d) aK_ (i:=i) (j:=1) (l:=(L.set i ⟨v.a,o.d⟩)) (x:=⟨v.a,o.d⟩) (by simp[hs]) (by decide) rfl;rw[List.set_set] at Q1;have hH:w2.grownBy ((w2.setCell ⟨b,i*2,none⟩ (.int .i64 v.a)).setCell ⟨b,i*2+1,none⟩ (.string v.d)) (some b):=af_ (af_ (Yh _ _) _ _) _ _
     have hy:Hid ((L.set i v).take (i+1)=(rows.take (j+1)).filter (fun r=>!(q r))):=by
      show _=_;rw[cU_ hs,hb,hm.out]
     have h2:Hid ((L.set i v).drop (j+1)=rows.drop (j+1)):=by
      show _=_;rw[List.drop_set_of_lt (by omega)];exact hL
     have qe:=hI2 _ _ hV hH;have hY:=aV_ hF hH;go_roundw
     case rel=>exact⟨i+1,j+1,L.set i v,by omega,by omega,by go_num,by go_num,Q1,hy,h2,qe,hY⟩
     case measure=>simp[intOf];omega
    ·rw[hQ] at hb;simp only[if_true,Yy] at hb;have hy:Hid (L.take i=(rows.take (j+1)).filter (fun r=>!(q r))):=by show _=_;rw[hb];exact hm.out
     clear V V2 hA hg hE hl R hp;go_wp2;go_roundw
     case rel=>exact⟨i,j+1,L,by omega,by omega,rfl,by go_num,R2,hy,hL,hV,hF⟩
     case measure=>simp[intOf];omega
   ·obtain rfl:j=n:=by omega
    have hs:i<=L.length:=by omega
    have he:Hid (L.take i=rows.filter (fun r=>!(q r))):=by show _=_;rw[hm.out,Zk (Zm hf.out)]
    rcases R.own with⟨h0,_⟩ | ⟨b',h6,hX,qb,h7,c,hc,hK,hb⟩
    ·cases h0
    cases h6
    have hC:i*2+(j-i)*2<=c.size:=by
     rw[hK,<-Yd];exact ZS _ (by omega)
    obtain⟨W2,c2,qg,hJ,hR,hS,h8⟩:=fy_ (P:=prog) wr 31 76 (.agg #[.int .i64 0,.string .empty]) underlying31 Tryz.zeroValue76 p6_ 2 rfl b (i*2) (j-i) (cap-i) c 76 hc hC
    have h5:Ae Ex.cs 2 76 W2 B (some ⟨b,0,none⟩) i cap (rows.filter (fun r=>!(q r))):=by
     refine bM_ aK_ hJ hX ?_ (by omega) h7 (by rw[hR,hK]) ?_
     ·rw[<-he.out,Zz];omega
     ·rw[hS,<-he.out,<-cq_ aK_,<-hb,List.take_take,ZZ (ZS _ (by omega))]
    have hZ:=aV_ hG h8;have qf:¬ (cap=i):=by omega
    have qh:(0:Int)<=i:=by omega
    have qk:(i:Int)<=(j:Int):=by omega
    clear hR hS hJ hc hb hm hx he R;go_wp2;go_returns;exact⟨i,rfl,h5,hZ⟩
theorem BF.below {L:List Ct}(h:BF w b n L)(hb:Below w.heap.size w w'):BF w' b n L:=h.kept (row:=none) ⟨hb.os,hb.tape,hb.output,hb.size,fun k hk _=>hb.block k hk⟩ (by simp)
def Gl (nb mb:Nat)(F:List Ct)(u:World):Prop:=u.cell? ⟨nb,0,none⟩=some (.map (some mb))∧∃ n,BF u mb n F
theorem gM_ (nb mb:Nat)(F:List Ct)(ex:List Ex)(hx:∀ x∈ex,(Lit.int .i64 x.a).wf=true):cr_ ex (Gl nb mb F) (.func (.func 213) #[] #[.pointer (some ⟨nb,0,none⟩)]) (fun r=>decide (Cp r.a F=0)):=by
 refine⟨_,_,rfl,fun x y u=>by kernel_rfl,fun u r hr hu=>?_⟩;obtain⟨hu,n,A⟩:=hu;have hA:Below u.heap.size u (u.alloc (.cells #[.int .i64 r.a,.string r.d] 76)):=(Yg _ _).alloc (Zd _) _;have r1:=(A.below hA).look (hx r hr);have h0:=Ab hA hu;clear A;go_enter func213,ntmps213;generalize Cp r.a F=Z at *;by_cases h:Z=0
 ·subst h;go_wp2;go_returns;exact⟨by simp,hA⟩
 ·go_wp2;go_returns;exact⟨by simp[h],hA⟩
theorem gY_ (I:World->Prop)(fv:Value)(q:Ex->Bool)(hq:cr_ [] I fv q)(hI:∀ u u',I u->Below u.heap.size u u'->I u')(w:World)(hw:I w):
  Calls prog 212 #[.slice none 0 0,fv] w fun e w'=>e=.returned (.slice none 0 0)∧Below w.heap.size w w':=by
 obtain⟨f,cp,rfl,ha,hq⟩:=hq;have hc:cr_ [] I (.func (.func f) #[] #[cp]) q:=⟨f,cp,rfl,ha,hq⟩;go_enter func212,ntmps212
 go_wp2_with fail
 refine (fj_ [] I (.func (.func f) #[] #[cp]) q hc hI none 0 0 w (aB_ (t:=76) (B:=0)).sl hw (by omega)).mono ?_;rintro e w1 ⟨rfl,hb⟩;simp only[List.findIdx?_nil,B5];go_wp2;go_returns;exact⟨rfl,hb⟩
theorem lX_ (F:List Ct)(ex:List Ex):ex.filter (fun r=>!(decide (Cp r.a F=0)))=ex.filter (fun e=>F.any (fun c=>c.o.a==e.a)):=by
 refine List.filter_congr fun e _=>?_;unfold Cp
 cases h:F.any (fun c=>c.o.a==e.a)
 ·have:F.countP (fun c=>c.o.a==e.a)=0:=by
   rw[List.countP_eq_zero];intro c hc
   have:=List.any_eq_false.1 h c hc
   simpa using this
  simp[this]
 ·have:F.countP (fun c=>c.o.a==e.a)≠0:=by
   intro h0;rw[List.countP_eq_zero] at h0;obtain⟨c,hc,ha⟩:=ZN.1 h;exact h0 c hc ha
  have h1:¬ ((F.countP (fun c=>c.o.a==e.a):Nat):Int)=0:=by omega
  rw[YV h1];rfl
end
end Go.Proofs.YtahenegmbmnmjaaGreatDoor
