/- What an order is, by its type; volumes looked up later. -/
import Derived.Test.YtdmeabghpchckaaGreatDoorU27
set_option maxHeartbeats 20000000
set_option maxRecDepth 100000
namespace Go.Proofs.YtdmeabghpchckaaGreatDoor
section
open Go Go.RowKit Go.BigFrame Tryz
variable{rows:List VR}{l:List Vo}{B ec en i lc ln' pb rc rn vb vc vn:Nat}{ea la ra:Option Addr}{p:Po}{r:VR}{y:Vo}{w w' w0:World}
theorem hY_ (I:World->Prop)(fv:Value)(q:VR->Bool)(hq:eV_ I fv q)(hI:∀ u u',I u->Below u.heap.size u u'->I u')(B b n cap:Nat)(hI2:∀ u u',I u->u.grownBy u' (some b)->I u')(rows:List VR)(w:World)(R:Ad vrs 4 38 w B (some ⟨b,0,none⟩) n cap rows)(hw:I w)(hn:n<=4194304):
  Calls prog 95 #[.slice (some ⟨b,0,none⟩) n cap,fv] w fun e w'=>∃ m,e=.returned (.slice (some ⟨b,0,none⟩) m cap)∧Ad vrs 4 38 w' B (some ⟨b,0,none⟩) m cap (rows.filter (fun r=>!(q r)))∧w.grownBy w' (some b):=by
 have hf:Hid (rows.length=n):=R.sl.len
 have qo:n<=cap∧cap<=9223372036854775807:=by
  rcases R.own with⟨h0,_⟩ | ⟨b',h1,_,h3,h4,_⟩
  ·cases h0
  ·unfold maxLen at h4;omega
 obtain⟨f,cp,rfl,hC,hq⟩:=hq;have qc:eV_ I (.func (.func f) #[] #[cp]) q:=⟨f,cp,rfl,hC,hq⟩;go_enter func95,ntmps95
 go_wp2_with fail
 refine (iu_ I (.func (.func f) #[] #[cp]) q qc hI (some ⟨b,0,none⟩) n cap rows w R.sl hw hn).mono ?_;rintro e w1 ⟨rfl,hu⟩;have hU:=hI _ _ hw hu;replace R:=R.below hu;have hx:w.grownBy w1 (some b):=au_ (Yh _ _) hu
 cases hN:rows.findIdx? q with
 |none=>
  have hl:rows.filter (fun r=>!(q r))=rows:=by
   rw[YA];intro r hr
   have:=YL.1 hN r hr
   simpa using this
  unfold BX;go_wp2;go_returns;rw[hl];exact⟨n,rfl,R,hx⟩
 |some k0=>
  obtain⟨hO,hP,hQ⟩:=ZA.1 hN;have hE:k0<n:=by rw[<-hf.out];exact hO
  have hm:Hid (rows.take k0=(rows.take (k0+1)).filter (fun r=>!(q r))):=by
   show _=_
   have h1:(rows.take k0).filter (fun r=>!(q r))=rows.take k0:=by
    rw[YA];intro a ha;obtain⟨j,hj,rfl⟩:=List.mem_take_iff_getElem.1 ha
    have:=hQ j (by omega)
    simpa using this
   rw[ZK,YR,h1,ZI hO];simp[hP]
  unfold BX;have hz:¬ ((k0:Int)=-1):=by omega
  have qq:((k0:Int)==-1)=false:=by rw[ZV];omega
  go_wp2_with fail
  go_loopw [5,6] (fun vi vj wr=>∃ (i j:Nat) (L:List VR),i<j∧j<=n∧vi=.int .i64 i∧vj=.int .i64 j∧Ad vrs 4 38 wr B (some ⟨b,0,none⟩) n cap L∧Hid (L.take i=(rows.take j).filter (fun r=>!(q r)))∧Hid (L.drop j=rows.drop j)∧I wr∧w.grownBy wr (some b)) (fun _ vj _=>n-(intOf vj).toNat)
  case atStart=>exact⟨k0,k0+1,rows,ZB _,hE,rfl,rfl,R,hm,rfl,hU,hx⟩
  case round=>
   clear R hU hx hm hP hQ;obtain⟨i,j,L,ql,hj,rfl,rfl,R,hs,hy,hW,hG⟩:=hrel;have qa:L.length=n:=R.sl.len;by_cases hlt:j<n
   ·have qm:(j:Int)<n:=by omega
    have qn:(0:Int)<=j:=by omega
    have qi:(i:Int)<n:=by omega
    have qj:(0:Int)<=i:=by omega
    have h9:j<rows.length:=by rw[hf.out];exact hlt
    obtain⟨v,hv⟩:∃ v,rows[j]?=some v:=⟨rows[j],by simp[h9]⟩
    have ht:L[j]?=some v:=by
     have h1:(L.drop j)[0]?=(rows.drop j)[0]?:=by rw[hy.out]
     simpa[hv] using h1
    have hM:L.drop (j+1)=rows.drop (j+1):=by
     have h1:(L.drop j).drop 1=(rows.drop j).drop 1:=by rw[hy.out]
     simpa[List.drop_drop,Nat.add_comm] using h1
    have hb:(rows.take (j+1)).filter (fun r=>!(q r))=(rows.take j).filter (fun r=>!(q r))++(if q v=true then [] else [v]):=by
     rw[ZK,hv,YR];simp only[Option.toList_some,ZH,List.filter_nil]
     cases q v<;>simp
    have x0:wr.cell? ⟨b,j*4,none⟩=some (.int .i64 v.id):=R.cellAt (j:=0) ht rfl;have x1:wr.cell? ⟨b,j*4+1,none⟩=some (.string v.nm):=R.cellAt (j:=1) ht rfl;have x2:wr.cell? ⟨b,j*4+2,none⟩=some (.bool v.fx):=R.cellAt (j:=2) ht rfl;have x3:wr.cell? ⟨b,j*4+3,none⟩=some (.slice v.pa v.pn v.pc):=R.cellAt (j:=3) ht rfl
    go_wp2_with fail
    have hA:Below wr.heap.size wr (wr.alloc (.cells #[.int .i64 v.id,.string v.nm,.bool v.fx,.slice v.pa v.pn v.pc] 38)):=(Yg _ _).alloc (Zd _) _;have V:=Blk.new wr #[.int .i64 v.id,.string v.nm,.bool v.fx,.slice v.pa v.pn v.pc] 38;have hF:=hI _ _ hW hA;refine (hq _ v hF).mono ?_;rintro e w2 ⟨rfl,hp⟩;have hk:=Aa hA hp;have R2:=R.below hk;have V2:=V.below hp;have hV:=hI _ _ hW hk;have hH:=au_ hG hk;have qp:¬ wr.heap.size=b:=by have:=(R.block _ rfl).2;simp only at this;omega
    have qd:¬ b=wr.heap.size:=by omega
    obtain⟨cc,hg⟩:=R2.blkAt;have y0:w2.cell? ⟨wr.heap.size,0,none⟩=some (.int .i64 v.id):=V2.cell 0;have y1:w2.cell? ⟨wr.heap.size,1,none⟩=some (.string v.nm):=V2.cell 1;have y2:w2.cell? ⟨wr.heap.size,2,none⟩=some (.bool v.fx):=V2.cell 2;have y3:w2.cell? ⟨wr.heap.size,3,none⟩=some (.slice v.pa v.pn v.pc):=V2.cell 3
    cases hR:q v
    ·rw[hR] at hb;simp only[Zj,if_false] at hb;have hh:i<L.length:=by omega
     obtain⟨o,ho⟩:∃ o,L[i]?=some o:=⟨L[i],by simp[hh]⟩;have z0:w2.cell? ⟨b,i*4,none⟩=some (.int .i64 o.id):=R2.cellAt (j:=0) ho rfl;have f0:=hg.frozen (i*4);have z1:w2.cell? ⟨b,i*4+1,none⟩=some (.string o.nm):=R2.cellAt (j:=1) ho rfl;have f1:=hg.frozen (i*4+1);have z2:w2.cell? ⟨b,i*4+2,none⟩=some (.bool o.fx):=R2.cellAt (j:=2) ho rfl;have f2:=hg.frozen (i*4+2);have z3:w2.cell? ⟨b,i*4+3,none⟩=some (.slice o.pa o.pn o.pc):=R2.cellAt (j:=3) ho rfl;have f3:=hg.frozen (i*4+3);clear V V2 hA hk hF hp R hg qa x0 x1 x2 x3;go_wp2;have Q0:=R2.set1 (x':=⟨v.id,o.nm,o.fx,o.pa,o.pn,o.pc⟩) (v:=.int .i64 v.id) a2_ (i:=i) (j:=0) (l:=L) (x:=o) (ho) (by decide) rfl;have Q1:=Q0.set1 (x':=⟨v.id,v.nm,o.fx,o.pa,o.pn,o.pc⟩) (v:=.string v.nm) a2_ (i:=i) (j:=1) (l:=(L.set i ⟨v.id,o.nm,o.fx,o.pa,o.pn,o.pc⟩)) (x:=⟨v.id,o.nm,o.fx,o.pa,o.pn,o.pc⟩) (by simp[hh]) (by decide) rfl;rw[List.set_set] at Q1;have Q2:=Q1.set1 (x':=⟨v.id,v.nm,v.fx,o.pa,o.pn,o.pc⟩) (v:=.bool v.fx) a2_ (i:=i) (j:=2) (l:=(L.set i ⟨v.id,v.nm,o.fx,o.pa,o.pn,o.pc⟩)) (x:=⟨v.id,v.nm,o.fx,o.pa,o.pn,o.pc⟩) (by simp[hh]) (by decide) rfl;rw[List.set_set] at Q2;have Q3:=Q2.set1 (x':=v) (v:=.slice v.pa v.pn v.pc) a2_ (i:=i) (j:=3) (l:=(L.set i ⟨v.id,v.nm,v.fx,o.pa,o.pn,o.pc⟩)) (x:=⟨v.id,v.nm,v.fx,o.pa,o.pn,o.pc⟩) (by simp[hh]) (by decide) rfl;rw[List.set_set] at Q3;have hJ:w2.grownBy ((((w2.setCell ⟨b,i*4,none⟩ (.int .i64 v.id)).setCell ⟨b,i*4+1,none⟩ (.string v.nm)).setCell ⟨b,i*4+2,none⟩ (.bool v.fx)).setCell ⟨b,i*4+3,none⟩ (.slice v.pa v.pn v.pc)) (some b):=af_ (af_ (af_ (af_ (Yh _ _) _ _) _ _) _ _) _ _
     have hB:Hid ((L.set i v).take (i+1)=(rows.take (j+1)).filter (fun r=>!(q r))):=by
      show _=_;rw[cU_ hh,hb,hs.out]
     have h2:Hid ((L.set i v).drop (j+1)=rows.drop (j+1)):=by
      show _=_;rw[List.drop_set_of_lt (by omega)];exact hM
     have qe:=hI2 _ _ hV hJ;have hY:=aV_ hH hJ;go_roundw
     case rel=>exact⟨i+1,j+1,L.set i v,by omega,by omega,by go_num,by go_num,Q3,hB,h2,qe,hY⟩
     case measure=>simp[intOf];omega
    ·rw[hR] at hb;simp only[if_true,Yy] at hb;have hB:Hid (L.take i=(rows.take (j+1)).filter (fun r=>!(q r))):=by show _=_;rw[hb];exact hs.out
     clear V V2 hA hk hF hp R hg;go_wp2;go_roundw
     case rel=>exact⟨i,j+1,L,by omega,by omega,rfl,by go_num,R2,hB,hM,hV,hH⟩
     case measure=>simp[intOf];omega
   ·obtain rfl:j=n:=by omega
    have hh:i<=L.length:=by omega
    have he:Hid (L.take i=rows.filter (fun r=>!(q r))):=by show _=_;rw[hs.out,Zk (Zm hf.out)]
    rcases R.own with⟨h0,_⟩ | ⟨b',h6,hX,qb,h7,c,hc,hL,hb⟩
    ·cases h0
    cases h6
    have hD:i*4+(j-i)*4<=c.size:=by
     rw[hL,<-Yd];exact ZS _ (by omega)
    obtain⟨W2,c2,qg,hK,hS,hT,h8⟩:=fy_ (P:=prog) wr 25 38 (.agg #[.int .i64 0,.string .empty,.bool false,.slice none 0 0]) underlying25 Tryz.zeroValue38 p7_ 4 rfl b (i*4) (j-i) (cap-i) c 38 hc hD
    have h5:Ad vrs 4 38 W2 B (some ⟨b,0,none⟩) i cap (rows.filter (fun r=>!(q r))):=by
     refine bM_ a2_ hK hX ?_ (by omega) h7 (by rw[hS,hL]) ?_
     ·rw[<-he.out,Zz];omega
     ·rw[hT,<-he.out,<-cq_ a2_,<-hb,List.take_take,ZZ (ZS _ (by omega))]
    have hZ:=aV_ hG h8;have qf:¬ (cap=i):=by omega
    have qh:(0:Int)<=i:=by omega
    have qk:(i:Int)<=(j:Int):=by omega
    clear hS hT hK hc hb hs hy he R;go_wp2;go_returns;exact⟨i,rfl,h5,hZ⟩
theorem Ax.uncons (h:Ax B w (r::rows) (y::l)):Bd B w r y∧Ax B w rows l:=
 ⟨h.at' 0 r y rfl rfl,by have:=h.len;simpa using this,fun i q z h1 h2=>h.at' (i+1) q z (by simpa using h1) (by simpa using h2)⟩
theorem Ax.filt {f:List UInt8}:∀ {rows:List VR} {l:List Vo},Ax B w rows l->Ax B w (rows.filter (fun r=>!(r.nm.toList==f))) (l.filter (fun y=>!(y.nm.toList==f)))
 |[],[],h=>h
 |[],_::_,h=>by have:=h.len;simp at this
 |_::_,[],h=>by have:=h.len;simp at this
 |r::rows,y::l,h=>by
  obtain⟨h1,h2⟩:=h.uncons;have e:=h1.nm;rw[ZH,ZH,e];split
  ·exact Ax.cons h1 (Ax.filt h2)
  ·exact Ax.filt h2
theorem l2_ (xb:Nat)(vol:ByteArray):eV_ (fun u=>u.cell? ⟨xb,0,none⟩=some (.string vol)) (.func (.func 96) #[] #[.pointer (some ⟨xb,0,none⟩)]) (fun r=>r.nm.toList==vol.toList):=by
 refine⟨_,_,rfl,fun x y u=>by kernel_rfl,fun u r hu=>?_⟩;go_enter func96,ntmps96;have hx:=fun ob=>Am (w:=u) ob hu
 cases h:(r.nm.toList==vol.toList)
 ·have h':¬ r.nm.toList=vol.toList:=by simpa using h
  go_wp2;go_returns;exact⟨rfl,by go_grown⟩
 ·have h':r.nm.toList=vol.toList:=by simpa using h
  go_wp2;go_returns;exact⟨rfl,by go_grown⟩
theorem l3_ (S:Addr->Prop)(B pb:Nat)(h0:0<B)(p:Po)(ea:Option Addr)(en ec:Nat)(va:Option Addr)(vn vc:Nat)(ra:Option Addr)(rn rc:Nat)(la:Option Addr)(ln' lc:Nat)(rows:List VR)(vol:ByteArray)(hpb:B<=pb)(w:World)(hBw:B<=w.heap.size)(h:Own B pb w p ea en ec va vn vc ra rn rc la ln' lc rows)(hr:Rgt p)(hS:BO S w)(hvl:vol.size<=1048576)(hv0:¬ vol.toList=[]):
  Calls prog 46 #[.pointer (some ⟨pb,0,none⟩),.iface 162 (.agg #[.string vol])] w fun e w'=>Cu S B pb w e w' (AG p vol false (fun _ _=>.inr {p with vs:=p.vs.filter (fun v=>!(v.nm.toList==vol.toList))})):=by
 have h5:vn<=4000000:=by have h1:=h.RV.sl.len;have h2:=h.T.len;have h3:=hr.vn;omega
 obtain⟨vb,hz⟩:∃ vb,0<vn->va=some ⟨vb,0,none⟩:=by
  rcases h.RV.own with⟨h1,h2,h3⟩ | ⟨b,h1,_⟩
  ·exact⟨0,fun h=>absurd h (by omega)⟩
  ·exact⟨b,fun _=>h1⟩
 obtain⟨R,hR⟩:∃ R,Hid (AG p vol false (fun _ _=>.inr {p with vs:=p.vs.filter (fun v=>!(v.nm.toList==vol.toList))})=R):=⟨_,rfl⟩;rw[hR.out];obtain⟨o,ho⟩:∃ o,Hid (volI p.vs vol=o):=⟨_,rfl⟩;obtain⟨p0,p1,p2,p3,p4,p5⟩:=h.P.six';go_enter func46,ntmps46
 go_wp2_with fail
 refine (bh_ B p.size p.next ea en ec va vn vc ra rn rc la ln' lc vb rows p.vs hz w h.RV h.T (by omega) hr.str hr.nd).mono ?_;rintro e w1 ⟨⟨mb,rfl,hF⟩,hv⟩;clear p0 p1 p2 p3 p4 p5;have h6:=hv.size;have _:=h0;have hV:=e2_ (.string vol);have hP:=bQ_
 go_wp2_with fail
 refine (aP_ vol w1).mono ?_;rintro e w2 ⟨rfl,hw⟩;have hf:=hF vol w2 hvl hw;rw[ho.out] at hf;clear hF;have hj:=Aa hv hw;have h7:=hj.size;replace h:=h.below hj;replace hS:=hS.below hj;clear hv hw;have h4:vol.toList.isEmpty=false:=by cases hq:vol.toList with | nil=>exact absurd hq hv0 | cons _ _=>rfl
 cases o with
 |none=>
  dsimp only[BS] at hf;have hM:Hid (R=.inl 3):=by show _=_;rw[<-hR.out];unfold AG;rw[ho.out]
  clear hR ho
  go_wp2_with fail
  refine (aP_ vol w2).mono ?_;rintro e w3 ⟨rfl,he⟩;replace hS:=hS.below he;have hu:=Aa hj he;obtain⟨ev,hx,hX⟩:=hS.volume;have g:w3.cell? ⟨4,0,none⟩=_:=hx;go_wp2;go_returns;rw[hM.out];exact⟨⟨ev,hX,rfl⟩,hu.mono hBw⟩
 |some i=>
  dsimp only[BS] at hf;have hE:=ap_ ho.out;obtain⟨y,hy⟩:∃ y,p.vs[i]?=some y:=⟨p.vs[i],by simp[hE]⟩;have hs:0<vn:=by have h1:=h.RV.sl.len;have h2:=h.T.len;omega
  obtain rfl:=hz hs
  have hD:Hid (R=if (false&&y.fx)=true then .inl 6 else (.inr {p with vs:=p.vs.filter (fun v=>!(v.nm.toList==vol.toList))}:Int⊕Po)):=by
   show _=_;rw[<-hR.out];unfold AG;rw[ho.out];simp only[hy]
  clear hR ho hz hs;obtain⟨r,hW,F⟩:=h.foc hr hy;have hQ:Hid (r.fx=y.fx):=F.v.fx;have x2:w2.cell? ⟨vb,i*4+2,none⟩=some (.bool r.fx):=F.rv.cellAt hW rfl;rw[hQ.out] at x2;have hU:=ex_ (.string vol);have hO:=bJ_;clear hE
  go_wp2_with fail
  refine (bK_ vol w2).mono ?_;rintro e w3 ⟨rfl,he⟩;replace h:=h.below he;replace hS:=hS.below he;replace F:=F.below he;replace x2:=Ab he x2;have hu:=Aa hj he;have h8:=hu.size;clear hj he hf hV hP hU hO;simp only[Zr,Zj,if_false] at hD;have t0:=dL_ (.agg #[.string vol]);have t1:=di_ (.agg #[.string vol]);have t2:=dM_ (.agg #[.string vol]);have t3:=dN_ (.agg #[.string vol]);have q3:∀ ob,(w3.alloc ob).cell? ⟨pb,3,none⟩=some (.slice (some ⟨vb,0,none⟩) vn vc):=fun ob=>Am (w:=w3) ob (h.P.cell 3)
  go_wp2_with fail
  have hA:Below w3.heap.size w3 (w3.alloc (.cells #[.string vol] 162)):=(Yg _ _).alloc (Zd _) _;have hZ:=hA.size;have ha:=h.below hA;have hB:=Aa hu hA;have X4:Blk (w3.alloc (.cells #[.string vol] 162)) w3.heap.size #[.string vol] 162:=Blk.new w3 _ _;have x4:(w3.alloc (.cells #[.string vol] 162)).cell? ⟨w3.heap.size,0,none⟩=some (.string vol):=X4.cell 0;have hY:¬ w3.heap.size=vb:=by have:=(h.RV.block _ rfl).2;simp only at this;omega
  refine (hY_ (fun u=>u.cell? ⟨w3.heap.size,0,none⟩=some (.string vol)) _ (fun r=>r.nm.toList==vol.toList) (l2_ w3.heap.size vol) (fun u u' h hb=>Ab hb h) B vb vn vc (fun u u' h hg=>hg.cell h (by simpa using hY)) rows (w3.alloc (.cells #[.string vol] 162)) ha.RV x4 (by omega)).mono ?_;rintro e w5 ⟨m,rfl,R5,hn⟩;obtain⟨cc,hm⟩:=ha.RV.blkAt;have hl:FrL [vb] (w3.alloc (.cells #[.string vol] 162)) w5:=FrL.of_grown hn (fun k e=>.inl (by cases e;simp))
  have hc:∀ t:TypeId,(38:TypeId)≠t->Oth (w3.alloc (.cells #[.string vol] 162)) [vb] t:=fun t ht k hk=>by
   simp at hk;subst hk;exact⟨cc,_,hm,ht⟩
  have hT:B<=vb:=(ha.RV.block _ rfl).1;have P5:=ha.P.frlT hl (hc _ (by decide));have hH:=ha.RE.frlT hl (hc _ (by decide));have hJ:=ha.RR.frlT hl (hc _ (by decide));have hI:=ha.RL.frlT hl (hc _ (by decide));have T5:=(ha.T.ty hn (aa_ hm) (by decide) (by decide)).filt (f:=vol.toList);have hC:=(hB.mono hBw).trans (hl.low (fun k hk=>by simp at hk;subst hk;exact hT) (by omega));have hp:=ha.sep;have hN:Cw (rows.filter (fun r=>!(r.nm.toList==vol.toList))):=ha.sepV.sub List.filter_sublist;have hK:=ha.T.ty hn (aa_ hm) (by decide) (by decide);have hG:=kp_ ha.T ha.np hn (aa_ hm) (by decide);clear hA ha hB X4 x4 hm hn hc hl hZ h;have f3:=P5.frozen 3;obtain⟨p0,p1,p2,p3,p4,p5⟩:=P5.six';go_wp2;go_returns;have hh:w5.grownBy (w5.setCell ⟨pb,3,none⟩ (.slice (some ⟨vb,0,none⟩) m vc)) (some pb):=af_ (Yh _ _) _ _;have P6:=P5.set 3 (.slice (some ⟨vb,0,none⟩) m vc);simp only[Yj,Yq,Yr] at P6;rw[hD.out];have hL:NP (w5.setCell ⟨pb,3,none⟩ (.slice (some ⟨vb,0,none⟩) m vc)) (rows.filter (fun r=>!(r.nm.toList==vol.toList))):=(kp_ hK hG hh (aa_ P5) (by decide)).sublist (hC_ List.filter_sublist);exact⟨rfl,⟨ea,en,ec,_,m,vc,ra,rn,rc,la,ln',lc,_,P6,hH.ty hh (aa_ P5) (by decide),R5.ty hh (aa_ P5) (by decide),T5.ty hh (aa_ P5) (by decide) (by decide),hJ.ty hh (aa_ P5) (by decide),hI.ty hh (aa_ P5) (by decide),hp,hN,hL⟩,hC.grown hh (by have:=hC.size;omega) (fun j e=>by cases e;exact hpb)⟩
def Dd (p:Po)(name:ByteArray)(its:List It):Int⊕Po:=match volI p.vs name with
 |some _=>.inl 4
 |none=>.inr {p with next:=p.next+1,vs:=p.vs++[⟨p.next,name,false,its⟩]}
theorem Own.endN {S:Addr->Prop}{va:Option Addr}(h:Own B pb w p ea en ec va vn vc ra rn rc la ln' lc rows)(hpb:B<=pb){name:ByteArray}{its:List It}(hb:Below w0.heap.size w0 w)(hB:B<=w0.heap.size){e:Ending}(hret:HY S B pb p.size p.next ea en ec va vn ra rn rc la ln' lc p.vs rows name its w e w' (volI p.vs name)):Cu S B pb w0 e w' (Dd p name its):=by
 have hz:=hb.size;unfold Dd
 cases ho:volI p.vs name with
 |some _=>rw[ho] at hret;exact⟨hret.1,(Aa hb hret.2).mono hB⟩
 |none=>
  rw[ho] at hret;obtain⟨he,va',vc',rows',h1,h2,h3,h4,r',hm,f1,f2,f3⟩:=hret;subst hm
  have hl:∀ k∈pb::AT va,B<=k:=fun k hk=>by
   rcases Zn.1 hk with rfl | hk
   ·exact hpb
   ·obtain⟨x,hf,hg⟩:=aO_.1 hk
    have:=(h.RV.block x hf).1
    omega
  have ha:∀ t:TypeId,(28:TypeId)≠t->(38:TypeId)≠t->Oth w (pb::AT va) t:=fun t t1 t2 k hk=>by
   rcases Zn.1 hk with rfl | hk
   ·exact⟨_,_,h.P,t1⟩
   ·obtain⟨x,hf,hg⟩:=aO_.1 hk;rcases h.RV.own with⟨q0,_⟩ | ⟨b,q1,_,_,_,c,hc,_⟩
    ·rw[q0] at hf;cases hf
    ·rw[q1] at hf
     cases hf
     simp only at hg;subst hg;exact⟨c,_,hc,t2⟩
  have hj:Cw (rows++[r']):=h.sepV.snoc (fun q hq x y hx hy=>by
   obtain⟨z,V⟩:=h.T.of_mem hq;obtain⟨rs,R,_⟩:=V.its;have q1:=(R.block x hx).2;have q2:=f1 y hy;omega)
  have hh:NP w' (rows++[r']):=by
   unfold NP;rw[ZQ,ZF,List.flatMap_nil,Yy,bW_ (f:=pbk w') (g:=pbk w) (l:=rows) (fun q hq=>by obtain⟨z,V⟩:=h.T.of_mem hq;exact fP_ V (fun rs R=>(R.frlT h4 (ha _ (by decide) (by decide))).sl))];exact mE_ (n:=w.heap.size) h.np (mD_ h.T) f2 f3
  exact⟨he,⟨ea,en,ec,va',vn+1,vc',ra,rn,rc,la,ln',lc,_,h1,h.RE.frlT h4 (ha _ (by decide) (by decide)),h2,h3,h.RR.frlT h4 (ha _ (by decide) (by decide)),h.RL.frlT h4 (ha _ (by decide) (by decide)),h.sep,hj,hh⟩,(hb.mono hB).trans (h4.low hl (by omega))⟩
theorem l4_ (S:Addr->Prop)(B pb:Nat)(h0:0<B)(p:Po)(ea:Option Addr)(en ec:Nat)(va:Option Addr)(vn vc:Nat)(ra:Option Addr)(rn rc:Nat)(la:Option Addr)(ln' lc:Nat)(rows:List VR)(vol tt:ByteArray)(hpb:B<=pb)(htt:tt.size<=1048576)(hn1:0<=p.next)(hn2:p.next<=4611686018427387904)(hps:∀ v∈p.vs,∀ z∈v.its,z.ps.length<=4194304)(w:World)(hBw:B<=w.heap.size)(h:Own B pb w p ea en ec va vn vc ra rn rc la ln' lc rows)(hr:Rgt p)(hS:BO S w)(hvl:vol.size<=1048576)(hv0:¬ vol.toList=[]):
  Calls prog 46 #[.pointer (some ⟨pb,0,none⟩),.iface 160 (.agg #[.string vol,.string tt])] w fun e w'=>Cu S B pb w e w' (AG p vol false (fun _ y=>Dd p tt y.its)):=by
 have hM:vn<=4000000:=by have h1:=h.RV.sl.len;have h2:=h.T.len;have h3:=hr.vn;omega
 obtain⟨vb,hu⟩:∃ vb,0<vn->va=some ⟨vb,0,none⟩:=by
  rcases h.RV.own with⟨h1,h2,h3⟩ | ⟨b,h1,_⟩
  ·exact⟨0,fun h=>absurd h (by omega)⟩
  ·exact⟨b,fun _=>h1⟩
 obtain⟨R,hR⟩:∃ R,Hid (AG p vol false (fun _ y=>Dd p tt y.its)=R):=⟨_,rfl⟩;rw[hR.out];obtain⟨o,ho⟩:∃ o,Hid (volI p.vs vol=o):=⟨_,rfl⟩;obtain⟨p0,p1,p2,p3,p4,p5⟩:=h.P.six';go_enter func46,ntmps46
 go_wp2_with fail
 refine (bh_ B p.size p.next ea en ec va vn vc ra rn rc la ln' lc vb rows p.vs hu w h.RV h.T (by omega) hr.str hr.nd).mono ?_;rintro e w1 ⟨⟨mb,rfl,hx⟩,hn⟩;clear p0 p1 p2 p3 p4 p5;have hN:=hn.size;have _:=h0;have hG:=e4_ (.string vol) (.string tt);have hD:=bQ_
 go_wp2_with fail
 refine (aP_ vol w1).mono ?_;rintro e w2 ⟨rfl,hp⟩;have hf:=hx vol w2 hvl hp;rw[ho.out] at hf;clear hx;have hh:=Aa hn hp;have hO:=hh.size;replace h:=h.below hh;replace hS:=hS.below hh;clear hn hp;have hL:vol.toList.isEmpty=false:=by cases hq:vol.toList with | nil=>exact absurd hq hv0 | cons _ _=>rfl
 cases o with
 |none=>
  dsimp only[BS] at hf;have hB:Hid (R=.inl 3):=by show _=_;rw[<-hR.out];unfold AG;rw[ho.out]
  clear hR ho
  go_wp2_with fail
  refine (aP_ vol w2).mono ?_;rintro e w3 ⟨rfl,hb⟩;replace hS:=hS.below hb;have hl:=Aa hh hb;obtain⟨ev,hs,hH⟩:=hS.volume;have g:w3.cell? ⟨4,0,none⟩=_:=hs;go_wp2;go_returns;rw[hB.out];exact⟨⟨ev,hH,rfl⟩,hl.mono hBw⟩
 |some i=>
  dsimp only[BS] at hf;have hw:=ap_ ho.out;obtain⟨y,hy⟩:∃ y,p.vs[i]?=some y:=⟨p.vs[i],by simp[hw]⟩;have hk:0<vn:=by have h1:=h.RV.sl.len;have h2:=h.T.len;omega
  obtain rfl:=hu hk
  have hv:Hid (R=if (false&&y.fx)=true then .inl 6 else Dd p tt y.its):=by
   show _=_;rw[<-hR.out];unfold AG;rw[ho.out];simp only[hy]
  clear hR ho hu hk;obtain⟨r,ht,F⟩:=h.foc hr hy;have hE:Hid (r.fx=y.fx):=F.v.fx;have x2:w2.cell? ⟨vb,i*4+2,none⟩=some (.bool r.fx):=F.rv.cellAt ht rfl;rw[hE.out] at x2;have hF:=ey_ (.string vol) (.string tt);have hC:=bJ_;clear hw
  go_wp2_with fail
  refine (bK_ vol w2).mono ?_;rintro e w3 ⟨rfl,hb⟩;replace h:=h.below hb;replace hS:=hS.below hb;replace F:=F.below hb;replace x2:=Ab hb x2;have hl:=Aa hh hb;have hP:=hl.size;clear hh hb hf hG hD hF hC;simp only[Zr,Zj,if_false] at hv;have t0:=dJ_ (.agg #[.string vol,.string tt]);have t1:=dh_ (.agg #[.string vol,.string tt]);have t2:=dK_ (.agg #[.string vol,.string tt])
  go_wp2_with fail
  have hA:Below w3.heap.size w3 ((w3.alloc (.cells #[.string vol,.string tt] 160)).drew):=((Yg _ _).alloc (Zd _) _).drew;have hQ:=hA.size;have hj:=h.below hA;have hg:=F.below hA;have hz:=Aa hl hA;have X4:Blk ((w3.alloc (.cells #[.string vol,.string tt] 160)).drew) w3.heap.size #[.string vol,.string tt] 160:=(Blk.new w3 _ _).drew;have y3:((w3.alloc (.cells #[.string vol,.string tt] 160)).drew).cell? ⟨vb,i*4+3,none⟩=some (.slice r.pa r.pn r.pc):=hg.rv.cellAt ht rfl;have x4:((w3.alloc (.cells #[.string vol,.string tt] 160)).drew).cell? ⟨w3.heap.size,1,none⟩=some (.string tt):=X4.cell 1;have hI:(fun u=>u.cell? ⟨w3.heap.size,1,none⟩=some (.string tt)) ((w3.alloc (.cells #[.string vol,.string tt] 160)).drew):=x4;refine aC_ (S:=(fun u=>u.cell? ⟨w3.heap.size,1,none⟩=some (.string tt))) 9 (by kernel_rfl) rfl ?_;generalize (w3.alloc (.cells #[.string vol,.string tt] 160)).drew=w4 at *;refine tk 0 ?_;refine tk 1 ?_;refine tk 2 ?_;refine tk 3 ?_;refine tk 4 ?_;refine tk 5 ?_;refine AW (i:=6) (by kernel_rfl) rfl (fun K hK=>?_);go_simp;refine hK.out _ _ x4 (fun hHeld=>?_);clear hK K
  try simp only[Act.put,lsA,lsB,lsC]
  refine AW (i:=7) (by kernel_rfl) rfl (fun K hK=>?_);go_simp;have hJ:=hg.v.at hg.rv ht;obtain⟨rs,RI,TI⟩:=hg.v.its;refine (ev_ S B h0 pb p.size p.next ea en ec (some ⟨vb,0,none⟩) vn vc ra rn rc la ln' lc vb p.vs rows tt r.pa r.pn r.pc y.its w4 (fun _=>rfl) (by omega) hj.P hj.RV hj.T (by omega) hr.str hr.nd htt hn1 hn2 (TI.rows.its RI) RI.hd (by have h1:=RI.sl.len;have h2:=TI.len;have h3:=hg.len;omega) (hps y (Zc hy)) (hS.below hA)).mono ?_;rintro e w5 ha;have he:=hj.endN hpb hz hBw ha;rw[<-hv.out] at he
  have x5:w5.cell? ⟨w3.heap.size,1,none⟩=some (.string tt):=by
   cases ho:volI p.vs tt with
   |some _=>rw[ho] at ha;exact Ab ha.2 x4
   |none=>
    rw[ho] at ha;obtain⟨_,_,_,_,_,_,_,h4,_⟩:=ha;refine (X4.frl h4 (fun hm=>?_)).cell 1;rcases Zn.1 hm with e | hm
    ·rw[e] at X4;exact bD_ X4 hj.P (by decide)
    ·simp[AT] at hm;rw[<-hm] at hg;obtain⟨c,hc⟩:=hg.rv.blkAt;exact bD_ X4 hc (by decide)
  cases ho:volI p.vs tt with
  |some _=>
   rw[ho] at ha;obtain⟨⟨er,_,rfl⟩,_⟩:=ha;unfold BJ at he ⊢;dsimp only;refine hK.out _ _ x5 (fun hHeld=>?_);clear hK K
   try simp only[Act.put,lsA,lsB,lsC]
   refine tk 8 ?_;refine wpAnyH_done (by kernel_rfl) ?_ _;go_wp2;go_returns;exact he
  |none=>
   rw[ho] at ha;obtain⟨rfl,_⟩:=ha;dsimp only;refine hK.out _ _ x5 (fun hHeld=>?_);clear hK K
   try simp only[Act.put,lsA,lsB,lsC]
   refine tk 8 ?_;refine wpAnyH_done (by kernel_rfl) ?_ _;go_wp2;go_returns;exact he
theorem l5_ (S:Addr->Prop)(B pb:Nat)(h0:0<B)(p:Po)(ea:Option Addr)(en ec:Nat)(va:Option Addr)(vn vc:Nat)(ra:Option Addr)(rn rc:Nat)(la:Option Addr)(ln' lc:Nat)(rows:List VR)(name:ByteArray)(hnm:name.size<=1048576)(hn1:0<=p.next)(hn2:p.next<=4611686018427387904)(w:World)(hBw:B<=w.heap.size)(h:Own B pb w p ea en ec va vn vc ra rn rc la ln' lc rows)(hr:Rgt p)(hS:BO S w)(hpb:B<=pb)(hne:volI p.vs .empty=none):
  Calls prog 46 #[.pointer (some ⟨pb,0,none⟩),.iface 152 (.agg #[.string name])] w fun e w'=>Cu S B pb w e w' (Dd p name []):=by
 have hy:vn<=4000000:=by have h1:=h.RV.sl.len;have h2:=h.T.len;have h3:=hr.vn;omega
 have _:=h0
 obtain⟨vb,hq⟩:∃ vb,0<vn->va=some ⟨vb,0,none⟩:=by
  rcases h.RV.own with⟨h1,h2,h3⟩ | ⟨b,h1,_⟩
  ·exact⟨0,fun h=>absurd h (by omega)⟩
  ·exact⟨b,fun _=>h1⟩
 obtain⟨p0,p1,p2,p3,p4,p5⟩:=h.P.six';go_enter func46,ntmps46
 go_wp2_with fail
 refine (bh_ B p.size p.next ea en ec va vn vc ra rn rc la ln' lc vb rows p.vs hq w h.RV h.T (by omega) hr.str hr.nd).mono ?_;rintro e w1 ⟨⟨mb,rfl,hp⟩,hh⟩;clear p0 p1 p2 p3 p4 p5;have hB:=hh.size;have hv:=e1_ (.string name);have ht:=df_
 go_wp2_with fail
 refine (bG_ w1).mono ?_;rintro e w2 ⟨rfl,hj⟩;have hc:=hp .empty w2 (by decide) hj;rw[hne] at hc;dsimp only[BS] at hc;clear hp hne;have hf:=Aa hh hj;replace h:=h.below hf;replace hS:=hS.below hf;clear hh hj;have hx:ByteArray.empty.toList.isEmpty=true:=by rw[Zu];rfl
 go_wp2_with fail
 refine (bG_ w2).mono ?_;rintro e w3 ⟨rfl,hk⟩;have hu:=ew_ (.string name);have hs:=cN_;clear hc
 go_wp2_with fail
 refine (cO_ w3).mono ?_;rintro e w4 ⟨rfl,hl⟩;have hg:=Aa hk hl;replace h:=h.below hg;replace hS:=hS.below hg;have hm:=Aa hf hg;have hC:=hm.size;clear hk hl hf hg hv hu ht hs;have t0:=dI_ (.agg #[.string name])
 go_wp2_with fail
 have hA:Below w4.heap.size w4 (w4.alloc (.cells #[.string name] 152)):=(Yg _ _).alloc (Zd _) _;have hw:=hA.size;have he:=h.below hA;have hn:=Aa hm hA;refine (ev_ S B h0 pb p.size p.next ea en ec va vn vc ra rn rc la ln' lc vb p.vs rows name none 0 0 [] _ hq (by omega) he.P he.RV he.T (by omega) hr.str hr.nd hnm hn1 hn2 ((AC.nil B _).rows.its (aB_ (B:=B) (t:=134))) (aB_ (B:=B) (t:=134) (w:=w4) (cs:=irs) (sz:=2)).hd (by omega) (fun z hz=>by cases hz) (hS.below hA)).mono ?_;rintro e w5 ha;have hb:=he.endN hpb hn hBw ha;clear hA hw he hn
 cases ho:volI p.vs name with
 |some _=>
  rw[ho] at ha;obtain⟨⟨er,_,rfl⟩,_⟩:=ha;unfold BJ at hb ⊢;clear ho;go_wp2;go_returns;exact hb
 |none=>
  rw[ho] at ha;obtain⟨rfl,_⟩:=ha;clear ho;go_wp2;go_returns;exact hb
end
section
open Go Go.RowKit Go.BigFrame Tryz
variable{r:IR}{y:It}{e:List Ex}{rows:List IR}{l:List It}{B n2:Nat}{p:Po}{w3:World}
def CB (p:Po):Po:={p with ex:=p.ex.filter (fun e=>((Aq p.rf p.lt).getD []).any (fun c=>c.o.a==e.a)),rf:=(Aq p.rf p.lt).getD [],lt:=[]}
theorem kR_ (S:Addr->Prop)(B pb:Nat)(h0:0<B)(p:Po)(ea:Option Addr)(en ec:Nat)(va:Option Addr)(vn vc:Nat)(ra:Option Addr)(rn rc:Nat)(la:Option Addr)(ln' lc:Nat)(rows:List VR)(hs1:Bw p.rf)(hs2:Bw p.lt)(hrn:p.rf.length<=4194304)(hln:p.lt.length<=4194304)(hen:p.ex.length<=4194304)(hFl:((Aq p.rf p.lt).getD []).length<=200)(hFw:∀ c∈(Aq p.rf p.lt).getD [],(Lit.int .i64 c.o.a).wf=true)(hxw:∀ z∈p.ex,(Lit.int .i64 z.a).wf=true)(w:World)(hBw:B<=w.heap.size)(h:Own B pb w p ea en ec va vn vc ra rn rc la ln' lc rows)(hr:Rgt p)(hS:BO S w)(hpb:B<=pb)(hne:volI p.vs .empty=none):
  Calls prog 46 #[.pointer (some ⟨pb,0,none⟩),.iface 155 (.agg #[])] w fun e w'=>Cu S B pb w e w' (.inr (CB p)):=by
 have hJ:vn<=4000000:=by have h1:=h.RV.sl.len;have h2:=h.T.len;have h3:=hr.vn;omega
 have _:=h0
 obtain⟨vb,hG⟩:∃ vb,0<vn->va=some ⟨vb,0,none⟩:=by
  rcases h.RV.own with⟨h1,h2,h3⟩ | ⟨b,h1,_⟩
  ·exact⟨0,fun h=>absurd h (by omega)⟩
  ·exact⟨b,fun _=>h1⟩
 obtain⟨p0,p1,p2,p3,p4,p5⟩:=h.P.six';go_enter func46,ntmps46
 go_wp2_with fail
 refine (bh_ B p.size p.next ea en ec va vn vc ra rn rc la ln' lc vb rows p.vs hG w h.RV h.T (by omega) hr.str hr.nd).mono ?_;rintro e w1 ⟨⟨mb,rfl,hy⟩,hl⟩;clear p0 p1 p2 p3 p4 p5;have hK:=hl.size;have hE:=eC_;have hC:=df_
 go_wp2_with fail
 refine (bG_ w1).mono ?_;rintro e w2 ⟨rfl,hn⟩;have he:=hy .empty w2 (by decide) hn;rw[hne] at he;dsimp only[BS] at he;clear hy hne;have hh:=Aa hl hn;replace h:=h.below hh;replace hS:=hS.below hh;clear hl hn;have hI:ByteArray.empty.toList.isEmpty=true:=by rw[Zu];rfl
 go_wp2_with fail
 refine (bG_ w2).mono ?_;rintro e w3 ⟨rfl,ht⟩;have hD:=d9_;have hB:=cN_;clear he
 go_wp2_with fail
 refine (cO_ w3).mono ?_;rintro e w4 ⟨rfl,hu⟩;have hj:=Aa ht hu;replace h:=h.below hj;replace hS:=hS.below hj;have hv:=Aa hh hj;have hL:=hv.size;clear ht hu hh hj hE hD hC hB;have t0:=dg_ (.agg #[]);have t1:=cV_ (.agg #[])
 go_wp2_with fail
 have hA:Below w4.heap.size w4 (w4.alloc (.cells #[] 155)):=(Yg _ _).alloc (Zd _) _;have hH:=hA.size;have ha:=h.below hA;have hw:=Aa hv hA;refine (lY_ B pb p.size p.next ea en ec (.slice va vn vc) ra rn rc la ln' lc p.ex p.rf p.lt _ _ (by omega) rfl ha.P ha.RE ha.RR.sl ha.RL.sl hs1 hs2 (by rw[<-ha.RR.sl.len];exact hrn) (by rw[<-ha.RL.sl.len];exact hln) (by rw[<-ha.RE.sl.len];exact hen) hFl hFw hxw).mono ?_;rintro e w5 ⟨rfl,ea',en',ec',ra',rn',rc',P5,hq,hs,hg⟩
 have hb:∀ t:TypeId,(28:TypeId)≠t->(42:TypeId)≠t->Oth (w4.alloc (.cells #[] 155)) (pb::AT ea) t:=fun t t1 t2 k hk=>by
  rcases Zn.1 hk with rfl | hk
  ·exact⟨_,_,ha.P,t1⟩
  ·obtain⟨z,hf,hp⟩:=aO_.1 hk;rcases ha.RE.own with⟨q0,_⟩ | ⟨b,q1,_,_,_,c,hc,_⟩
   ·rw[q0] at hf;cases hf
   ·rw[q1] at hf
    cases hf
    simp only at hp;subst hp;exact⟨c,_,hc,t2⟩
 have hx:∀ k∈pb::AT ea,B<=k:=fun k hk=>by
  rcases Zn.1 hk with rfl | hk
  ·exact hpb
  ·obtain⟨z,hf,hp⟩:=aO_.1 hk
   have:=(ha.RE.block z hf).1
   omega
 have T5:Ax B w5 rows p.vs:=⟨ha.T.len,fun i r y h1 h2=>(ha.T.at' i r y h1 h2).frl hg (hb _ (by decide) (by decide)) (fun ad e hm=>by
  obtain⟨rs,R,_⟩:=(ha.T.at' i r y h1 h2).its;obtain⟨c',t',hz,hF⟩:=hb 134 (by decide) (by decide) _ hm;rcases R.own with⟨q0,_⟩ | ⟨b,q1,_,_,_,c,hc,_⟩
  ·rw[q0] at e;cases e
  ·rw[q1] at e;cases e;exact bD_ hz hc hF)⟩
 have ho:Cu S B pb w (.returned .nilIface) w5 (.inr (CB p)):=⟨rfl,⟨ea',en',ec',va,vn,vc,ra',rn',rc',none,0,0,rows,P5,hq,ha.RV.frlT hg (hb _ (by decide) (by decide)),T5,hs,aB_,(fun x y _ e=>by cases e),ha.sepV,g3_ ha.T ha.np (fun r hr rs R=>(R.frlT hg (hb _ (by decide) (by decide))).sl)⟩,(hw.mono hBw).trans (hg.low hx (by omega))⟩;clear hA hH ha hw hg hb hx T5 P5 hq hs;go_wp2;go_returns;exact ho
def Dq (p:Po)(k:Int)(vol file tt into:ByteArray)(at' fr ln:Int)(data:ByteArray):Int⊕Po:=
 if k=1 then Dd p vol [] else
 if k=7 then AG p vol false (fun _ _=>.inr {p with vs:=p.vs.filter (fun v=>!(v.nm.toList==vol.toList))}) else
 if k=8 then AG p vol false (fun i y=>(if y.fx=true then .inl 6 else .inr {p with vs:=p.vs.set i {y with fx:=true}}:Int⊕Po)) else
 if k=6 then AG p vol false (fun _ y=>Dd p tt y.its) else
 if k=2 then AG p vol true (fun i y=>Dn p i y (Cd p.size p.ex y file at' data)) else
 if k=3 then AG p vol true (fun i y=>BZ p i y (DT y file ln)) else
 if k=4 then AG p vol true (fun i y=>BZ p i y (BL y file)) else
 if k=10 then AG p vol true (fun i y=>BZ p i y (Cc y file at' ln)) else
 if k=5 then AG p tt true (fun i y=>BZ p i y (Cz p.vs y into at' vol file fr (fr+ln))) else
 .inr (CB p)
structure HV (p:Po):Prop where
 rgt:Rgt p
 ne:volI p.vs .empty=none
 n1:0<=p.next
 n2:p.next<=4611686018427387904
 ps:∀ v∈p.vs,∀ z∈v.its,z.ps.length<=4194304
 ex:BP p.ex
 el:p.ex.length<=4194304
 s1:Bw p.rf
 s2:Bw p.lt
 rl:p.rf.length<=4194304
 ll:p.lt.length<=4194304
 fl:((Aq p.rf p.lt).getD []).length<=200
 fw:∀ c∈(Aq p.rf p.lt).getD [],(Lit.int .i64 c.o.a).wf=true
 xw:∀ z∈p.ex,(Lit.int .i64 z.a).wf=true
structure HU (k:Int)(vol tt data:ByteArray):Prop where
 vs:vol.size<=1048576
 ts:tt.size<=1048576
 ds:data.size<=1000000
 vol0:¬ k=9->¬ vol.toList=[]
 tt0:k=5->¬ tt.toList=[]
theorem iv_ (S:Addr->Prop)(B pb:Nat)(h0:0<B)(p:Po)(ea:Option Addr)(en ec:Nat)(va:Option Addr)(vn vc:Nat)(ra:Option Addr)(rn rc:Nat)(la:Option Addr)(ln' lc:Nat)(rows:List VR)(k:Int)(vol file tt into:ByteArray)(at' fr ln:Int)(data:ByteArray)(hpb:B<=pb)(hgl:11<=B)(hc:HV p)(ho:HU k vol tt data)(w:World)(hBw:B<=w.heap.size)(h:Own B pb w p ea en ec va vn vc ra rn rc la ln' lc rows)(hS:BO S w):
  Calls prog 46 #[.pointer (some ⟨pb,0,none⟩),Gm k vol file tt into at' fr ln data] w fun e w'=>Cu S B pb w e w' (Dq p k vol file tt into at' fr ln data):=by
 by_cases h1:k=1
 ·subst h1;exact l5_ S B pb h0 p ea en ec va vn vc ra rn rc la ln' lc rows vol ho.vs hc.n1 hc.n2 w hBw h hc.rgt hS hpb hc.ne
 by_cases h7:k=7
 ·subst h7;exact l3_ S B pb h0 p ea en ec va vn vc ra rn rc la ln' lc rows vol hpb w hBw h hc.rgt hS ho.vs (ho.vol0 (by decide))
 by_cases h8:k=8
 ·subst h8;exact nD_ S B pb h0 p ea en ec va vn vc ra rn rc la ln' lc rows vol w hBw h hc.rgt hS ho.vs (ho.vol0 (by decide))
 by_cases h6:k=6
 ·subst h6;exact l4_ S B pb h0 p ea en ec va vn vc ra rn rc la ln' lc rows vol tt hpb ho.ts hc.n1 hc.n2 hc.ps w hBw h hc.rgt hS ho.vs (ho.vol0 (by decide))
 by_cases h2:k=2
 ·subst h2;exact kQ_ S B pb h0 p ea en ec va vn vc ra rn rc la ln' lc rows vol file at' data hpb hgl hc.ex hc.el ho.ds w hBw h hc.rgt hS ho.vs (ho.vol0 (by decide))
 by_cases h3:k=3
 ·subst h3;exact nC_ S B pb h0 p ea en ec va vn vc ra rn rc la ln' lc rows vol file ln w hBw h hc.rgt hS ho.vs (ho.vol0 (by decide))
 by_cases h4:k=4
 ·subst h4;exact jB_ S B pb h0 p ea en ec va vn vc ra rn rc la ln' lc rows vol file w hBw h hc.rgt hS ho.vs (ho.vol0 (by decide))
 by_cases h10:k=10
 ·subst h10;exact kO_ S B pb h0 p ea en ec va vn vc ra rn rc la ln' lc rows vol file at' ln w hBw h hc.rgt hS ho.vs (ho.vol0 (by decide))
 by_cases h5:k=5
 ·subst h5;exact l1_ S B pb h0 p ea en ec va vn vc ra rn rc la ln' lc rows tt into at' vol file fr (fr+ln) ho.vs w hBw h hc.rgt hS ho.ts (ho.tt0 rfl)
 have e1:Gm k vol file tt into at' fr ln data=.iface 155 (.agg #[]):=by unfold Gm;simp only[h1,h7,h8,h6,h2,h3,h4,h10,h5,if_false]
 have e2:Dq p k vol file tt into at' fr ln data=.inr (CB p):=by unfold Dq;simp only[h1,h7,h8,h6,h2,h3,h4,h10,h5,if_false]
 rw[e1,e2];exact kR_ S B pb h0 p ea en ec va vn vc ra rn rc la ln' lc rows hc.s1 hc.s2 hc.rl hc.ll hc.el hc.fl hc.fw hc.xw w hBw h hc.rgt hS hpb hc.ne
theorem mS_:∀ {l:List It} {q:Option It},igo e q l=true->(∀ p,q=some p->∀ x∈l,bl p.nm.toList x.nm.toList=true)∧EP l
 |[],_,_=>⟨fun _ _ x hx=>absurd hx (by simp),YT⟩
 |x::r,q,h=>by
  simp only[igo,Zf] at h;obtain⟨h1,h2⟩:=mS_ h.2;have h3:=h1 x rfl;refine⟨fun p hp z hz=>?_,List.Pairwise.cons h3 h2⟩;subst hp;have h4:=h.1.1.2;simp only at h4;rcases Zn.1 hz with rfl | hz
  ·exact h4
  ·exact hl_ h4 (h3 z hz)
theorem iX_ (h:itemsB l e=true):EP l∧l.length<=5:=by
 simp only[itemsB,Zf,ZU] at h;exact⟨(mS_ h.2).2,h.1⟩
theorem cm_ {d:ByteArray}(h:nameB d=true):¬ d.toList=[]:=by
 simp only[nameB,Zf,ZU] at h;intro e;rw[Zu] at e;have h1:d.data.toList.length=d.size:=by simp
 rw[e] at h1;simp at h1;omega
theorem p8_ (h:Ai p=true)(hd:AB p):Rgt p:=by
 obtain⟨h1,h2,_,_,h5⟩:=bL_ h;exact⟨by omega,hd.2.2.2.1,h5,fun v hv=>by have:=iX_ (b0_ h2 v hv).1;exact⟨this.1,by omega⟩⟩
theorem oI_ (h:Ai p=true):volI p.vs .empty=none:=by
 obtain⟨_,h2,_⟩:=bL_ h;unfold volI;rw[YL];intro v hv
 have:=cm_ (b0_ h2 v hv).2.1
 have h0:ByteArray.empty.toList=[]:=by rw[Zu];rfl
 rw[h0];simpa using this
end
section
open Go Go.RowKit
variable{at':Int}{l m:List Pt}{p:Pt}
theorem du_ (hl:Ac l=true):AH l at' m=Ak [] (Bp l at' m):=by
 have e:Ak [] (slp (min (Af l) (at'+Af m)) (Af l) 0 l)=slp (min (at'+Af m) (Af l)) (Af l) 0 l:=by
  rw[fD_ (b8_ hl _ _),Int.min_comm]
 unfold AH Bp;rw[e];split
 ·have e2:AI (Ak [] (slp 0 (min at' (Af l)) 0 l)) ⟨0,0,at'-Af l⟩=Ak [] (slp 0 (min at' (Af l)) 0 l++[⟨0,0,at'-Af l⟩]):=by
   rw[<-b2_];rfl
  rw[e2,b2_,b2_,<-ZC]
 ·rw[b2_,b2_,Yy,<-ZC]
theorem oL_ (hl:Ac l=true)(hm:Ac m=true)(h1:at'<=100):(∀ p∈Bp l at' m,Ag p=true)∧Af (Bp l at' m)<=400:=by
 have hA:=cH_ _ none 100 (by omega) (b8_ hl 0 (min at' (Af l)));have hC:=cH_ _ none 100 (by omega) (b8_ hl (min (at'+Af m) (Af l)) (Af l));have sm:=ae_ hm;have nl:=az_ l (ae_ hl).2.1;unfold Bp;constructor
 ·intro p hp;simp only[Zs] at hp;rcases hp with ((hp | hp) | hp) | hp
  ·exact hA.1 p hp
  ·split at hp
   ·simp at hp;subst hp;simp[Ag];omega
   ·simp at hp
  ·exact sm.2.1 p hp
  ·exact hC.1 p hp
 ·rw[a5_,a5_,a5_];split
  ·simp only[Af];omega
  ·simp only[Af];omega
theorem mT_ (l:List Pt)(at':Int)(m:List Pt):BN l at' m=FQ l at' m:=by
 unfold BN FQ;by_cases h:Ac l=true∧0<=at'∧at'<=100∧Ac m=true
 ·obtain⟨ok1,ok2⟩:=oL_ h.1 h.2.2.2 h.2.2.1;have ha:=az_ _ ok1;obtain⟨b1,b2⟩:=kT_ (Bp l at' m) [] 400 rfl ok1 (by simp only[Af];omega) (by omega) (by omega)
  have hp:Ac (Ak [] (Bp l at' m))=decide (Af (Bp l at' m)<=100∧(Ak [] (Bp l at' m)).length<=16):=by
   rw[YH];simp only[Ac,Zf,ZU];simp only[Af,Int.zero_add] at b2;constructor
   ·rintro⟨k1,k2⟩
    have:=cH_ _ none 100 (by omega) k2
    exact⟨by omega,k1⟩
   ·rintro⟨k1,k2⟩;exact⟨k2,f4_ _ none 400 100 b1 (by omega) (by omega)⟩
  rw[if_pos h,hS_ (fun p hp=>av_ (ok1 p hp)),du_ h.1];simp only[h,and_self,true_and,hp,ZU]
 ·rw[if_neg h,if_neg (fun hc=>h hc.1)]
end
section
open Go Go.RowKit Go.BigFrame Tryz
variable{w:World}
theorem Blk.six {b:Nat}{c0 c1 c2 c3 c4 c5:Value}{t:TypeId}(h:Blk w b #[c0,c1,c2,c3,c4,c5] t):w.cell? ⟨b,0,none⟩=some c0∧w.cell? ⟨b,1,none⟩=some c1∧w.cell? ⟨b,2,none⟩=some c2∧w.cell? ⟨b,3,none⟩=some c3∧w.cell? ⟨b,4,none⟩=some c4∧w.cell? ⟨b,5,none⟩=some c5:=
 ⟨h.cell 0,h.cell 1,h.cell 2,h.cell 3,h.cell 4,h.cell 5⟩
end
end Go.Proofs.YtdmeabghpchckaaGreatDoor
