/- What an order is, by its type; volumes looked up later. -/
import Derived.Test.YtbbhcnjhohidnaaGreatDoorV22
set_option maxHeartbeats 20000000
set_option maxRecDepth 100000
namespace Go.Proofs.YtbbhcnjhohidnaaGreatDoor
section
open Go Go.RowKit Go.BigFrame Tryz
variable{rows:List VR}{l:List Vo}{B ec en i lc ln' pb rc rn vb vc vn:Nat}{ea la ra:Option Addr}{p:Po}{r:VR}{y:Vo}{w w' w0:World}
theorem hY_ (I:World->Prop)(fv:Value)(q:VR->Bool)(hq:eV_ I fv q)(hI:∀ u u',I u->Below u.heap.size u u'->I u')(B b n cap:Nat)(hI2:∀ u u',I u->u.grownBy u' (some b)->I u')(rows:List VR)(w:World)(R:ResAt vrs 4 97 w B (some ⟨b,0,none⟩) n cap rows)(hw:I w)(hn:n<=4194304):
  Calls prog 121 #[.slice (some ⟨b,0,none⟩) n cap,fv] w fun e w'=>∃ m,e=.returned (.slice (some ⟨b,0,none⟩) m cap)∧ResAt vrs 4 97 w' B (some ⟨b,0,none⟩) m cap (rows.filter (fun r=>!(q r)))∧w.grownBy w' (some b):=by
 have hf:Hid (rows.length=n):=R.sl.len
 have qm:n<=cap∧cap<=9223372036854775807:=by
  rcases R.own with⟨h0,_⟩ | ⟨b',h1,_,h3,h4,_⟩
  ·cases h0
  ·unfold maxLen at h4;omega
 obtain⟨f,cp,rfl,hB,hq⟩:=hq;have qa:eV_ I (.func (.func f) #[] #[cp]) q:=⟨f,cp,rfl,hB,hq⟩;go_enter func121,ntmps121
 go_wp2_with fail
 refine (iu_ I (.func (.func f) #[] #[cp]) q qa hI (some ⟨b,0,none⟩) n cap rows w R.sl hw hn).mono ?_;rintro e w1 ⟨rfl,hE⟩;have hW:=hI _ _ hw hE;replace R:=R.below hE;have hu:w.grownBy w1 (some b):=au_ (World.grownBy.refl _ _) hE
 cases hJ:rows.findIdx? q with
 |none=>
  have hk:rows.filter (fun r=>!(q r))=rows:=by
   rw[List.filter_eq_self];intro r hr
   have:=List.findIdx?_eq_none_iff.1 hJ r hr
   simpa using this
  unfold idxI;go_wp2;go_returns;rw[hk];exact⟨n,rfl,R,hu⟩
 |some k0=>
  obtain⟨hM,hV,hU⟩:=ZA.1 hJ;have hC:k0<n:=by rw[<-hf.out];exact hM
  have hm:Hid (rows.take k0=(rows.take (k0+1)).filter (fun r=>!(q r))):=by
   show _=_
   have h1:(rows.take k0).filter (fun r=>!(q r))=rows.take k0:=by
    rw[List.filter_eq_self];intro a ha;obtain⟨j,hj,rfl⟩:=List.mem_take_iff_getElem.1 ha
    have:=hU j (by omega)
    simpa using this
   rw[ZK,List.filter_append,h1,ZI hM];simp[hV]
  unfold idxI;have hz:¬ ((k0:Int)=-1):=by omega
  have qf:((k0:Int)==-1)=false:=by rw[ZV];omega
  go_wp2_with fail
  go_loopw [5,6] (fun vi vj wr=>∃ (i j:Nat) (L:List VR),i<j∧j<=n∧vi=.int .i64 i∧vj=.int .i64 j∧ResAt vrs 4 97 wr B (some ⟨b,0,none⟩) n cap L∧Hid (L.take i=(rows.take j).filter (fun r=>!(q r)))∧Hid (L.drop j=rows.drop j)∧I wr∧w.grownBy wr (some b)) (fun _ vj _=>n-(intOf vj).toNat)
  case atStart=>exact⟨k0,k0+1,rows,ZB _,hC,rfl,rfl,R,hm,rfl,hW,hu⟩
  case round=>
   clear R hW hu hm hV hU;obtain⟨i,j,L,qk,hj,rfl,rfl,R,hp,hy,hN,hG⟩:=hrel;have qe:L.length=n:=R.sl.len;by_cases hlt:j<n
   ·have ql:(j:Int)<n:=by omega
    have qo:(0:Int)<=j:=by omega
    have qn:(i:Int)<n:=by omega
    have qi:(0:Int)<=i:=by omega
    have h7:j<rows.length:=by rw[hf.out];exact hlt
    obtain⟨v,hv⟩:∃ v,rows[j]?=some v:=⟨rows[j],by simp[h7]⟩
    have ht:L[j]?=some v:=by
     have h1:(L.drop j)[0]?=(rows.drop j)[0]?:=by rw[hy.out]
     simpa[hv] using h1
    have hQ:L.drop (j+1)=rows.drop (j+1):=by
     have h1:(L.drop j).drop 1=(rows.drop j).drop 1:=by rw[hy.out]
     simpa[List.drop_drop,Nat.add_comm] using h1
    have hb:(rows.take (j+1)).filter (fun r=>!(q r))=(rows.take j).filter (fun r=>!(q r))++(if q v=true then [] else [v]):=by
     rw[ZK,hv,List.filter_append];simp only[Option.toList_some,ZH,List.filter_nil]
     cases q v<;>simp
    have x0:wr.cell? ⟨b,j*4,none⟩=some (.int .i64 v.id):=R.cellAt (j:=0) ht rfl;have x1:wr.cell? ⟨b,j*4+1,none⟩=some (.string v.nm):=R.cellAt (j:=1) ht rfl;have x2:wr.cell? ⟨b,j*4+2,none⟩=some (.bool v.fx):=R.cellAt (j:=2) ht rfl;have x3:wr.cell? ⟨b,j*4+3,none⟩=some (.slice v.pa v.pn v.pc):=R.cellAt (j:=3) ht rfl
    go_wp2_with fail
    have hA:Below wr.heap.size wr (wr.alloc (.cells #[.int .i64 v.id,.string v.nm,.bool v.fx,.slice v.pa v.pn v.pc] 97)):=(Below.refl _ _).alloc (Zd _) _;have V:=Blk.new wr #[.int .i64 v.id,.string v.nm,.bool v.fx,.slice v.pa v.pn v.pc] 97;have hD:=hI _ _ hN hA;refine (hq _ v hD).mono ?_;rintro e w2 ⟨rfl,hs⟩;have hl:=chain hA hs;have R2:=R.below hl;have V2:=V.below hs;have hP:=hI _ _ hN hl;have hL:=au_ hG hl;have qh:¬ wr.heap.size=b:=by have:=(R.block _ rfl).2;simp only at this;omega
    have qb:¬ b=wr.heap.size:=by omega
    obtain⟨cc,hg⟩:=R2.blkAt;have y0:w2.cell? ⟨wr.heap.size,0,none⟩=some (.int .i64 v.id):=V2.cell 0;have y1:w2.cell? ⟨wr.heap.size,1,none⟩=some (.string v.nm):=V2.cell 1;have y2:w2.cell? ⟨wr.heap.size,2,none⟩=some (.bool v.fx):=V2.cell 2;have y3:w2.cell? ⟨wr.heap.size,3,none⟩=some (.slice v.pa v.pn v.pc):=V2.cell 3
    cases hT:q v
    ·rw[hT] at hb;simp only[Zj,if_false] at hb;have hh:i<L.length:=by omega
     obtain⟨o,ho⟩:∃ o,L[i]?=some o:=⟨L[i],by simp[hh]⟩;have z0:w2.cell? ⟨b,i*4,none⟩=some (.int .i64 o.id):=R2.cellAt (j:=0) ho rfl;have f0:=hg.frozen (i*4);have z1:w2.cell? ⟨b,i*4+1,none⟩=some (.string o.nm):=R2.cellAt (j:=1) ho rfl;have f1:=hg.frozen (i*4+1);have z2:w2.cell? ⟨b,i*4+2,none⟩=some (.bool o.fx):=R2.cellAt (j:=2) ho rfl;have f2:=hg.frozen (i*4+2);have z3:w2.cell? ⟨b,i*4+3,none⟩=some (.slice o.pa o.pn o.pc):=R2.cellAt (j:=3) ho rfl;have f3:=hg.frozen (i*4+3);clear V V2 hA hl hD hs R hg qe x0 x1 x2 x3;go_wp2;have Q0:=R2.set1 (x':=⟨v.id,o.nm,o.fx,o.pa,o.pn,o.pc⟩) (v:=.int .i64 v.id) a2_ (i:=i) (j:=0) (l:=L) (x:=o) (ho) (by decide) rfl;have Q1:=Q0.set1 (x':=⟨v.id,v.nm,o.fx,o.pa,o.pn,o.pc⟩) (v:=.string v.nm) a2_ (i:=i) (j:=1) (l:=(L.set i ⟨v.id,o.nm,o.fx,o.pa,o.pn,o.pc⟩)) (x:=⟨v.id,o.nm,o.fx,o.pa,o.pn,o.pc⟩) (by simp[hh]) (by decide) rfl;rw[List.set_set] at Q1;have Q2:=Q1.set1 (x':=⟨v.id,v.nm,v.fx,o.pa,o.pn,o.pc⟩) (v:=.bool v.fx) a2_ (i:=i) (j:=2) (l:=(L.set i ⟨v.id,v.nm,o.fx,o.pa,o.pn,o.pc⟩)) (x:=⟨v.id,v.nm,o.fx,o.pa,o.pn,o.pc⟩) (by simp[hh]) (by decide) rfl;rw[List.set_set] at Q2;have Q3:=Q2.set1 (x':=v) (v:=.slice v.pa v.pn v.pc) a2_ (i:=i) (j:=3) (l:=(L.set i ⟨v.id,v.nm,v.fx,o.pa,o.pn,o.pc⟩)) (x:=⟨v.id,v.nm,v.fx,o.pa,o.pn,o.pc⟩) (by simp[hh]) (by decide) rfl;rw[List.set_set] at Q3;have hR:w2.grownBy ((((w2.setCell ⟨b,i*4,none⟩ (.int .i64 v.id)).setCell ⟨b,i*4+1,none⟩ (.string v.nm)).setCell ⟨b,i*4+2,none⟩ (.bool v.fx)).setCell ⟨b,i*4+3,none⟩ (.slice v.pa v.pn v.pc)) (some b):=af_ (af_ (af_ (af_ (World.grownBy.refl _ _) _ _) _ _) _ _) _ _
     have hF:Hid ((L.set i v).take (i+1)=(rows.take (j+1)).filter (fun r=>!(q r))):=by
      show _=_;rw[cU_ hh,hb,hp.out]
     have h6:Hid ((L.set i v).drop (j+1)=rows.drop (j+1)):=by
      show _=_;rw[List.drop_set_of_lt (by omega)];exact hQ
     have h5:=hI2 _ _ hP hR;have h8:=aV_ hL hR;go_roundw
     case rel=>exact⟨i+1,j+1,L.set i v,by omega,by omega,by go_num,by go_num,Q3,hF,h6,h5,h8⟩
     case measure=>simp[intOf];omega
    ·rw[hT] at hb;simp only[if_true,List.append_nil] at hb;have hF:Hid (L.take i=(rows.take (j+1)).filter (fun r=>!(q r))):=by show _=_;rw[hb];exact hp.out
     clear V V2 hA hl hD hs R hg;go_wp2;go_roundw
     case rel=>exact⟨i,j+1,L,by omega,by omega,rfl,by go_num,R2,hF,hQ,hP,hL⟩
     case measure=>simp[intOf];omega
   ·obtain rfl:j=n:=by omega
    have hh:i<=L.length:=by omega
    have he:Hid (L.take i=rows.filter (fun r=>!(q r))):=by show _=_;rw[hp.out,Zk (Zm hf.out)]
    rcases R.own with⟨h0,_⟩ | ⟨b',qc,hZ,hX,qd,c,hc,hS,hb⟩
    ·cases h0
    cases qc
    have hx:i*4+(j-i)*4<=c.size:=by
     rw[hS,<-Yd];exact ZS _ (by omega)
    obtain⟨W2,c2,qq,hH,hO,hK,h9⟩:=fy_ (P:=prog) wr 32 97 (.agg #[.int .i64 0,.string .empty,.bool false,.slice none 0 0]) underlying32 Tryz.zeroValue97 p7_ 4 rfl b (i*4) (j-i) (cap-i) c 97 hc hx
    have hY:ResAt vrs 4 97 W2 B (some ⟨b,0,none⟩) i cap (rows.filter (fun r=>!(q r))):=by
     refine bM_ a2_ hH hZ ?_ (by omega) qd (by rw[hO,hS]) ?_
     ·rw[<-he.out,Zz];omega
     ·rw[hK,<-he.out,<-cq_ a2_,<-hb,List.take_take,ZZ (ZS _ (by omega))]
    have h2:=aV_ hG h9;have qp:¬ (cap=i):=by omega
    have qg:(0:Int)<=i:=by omega
    have qj:(i:Int)<=(j:Int):=by omega
    clear hO hK hH hc hb hp hy he R;go_wp2;go_returns;exact⟨i,rfl,hY,h2⟩
theorem VolsT.uncons (h:VolsT B w (r::rows) (y::l)):VolT B w r y∧VolsT B w rows l:=
 ⟨h.at' 0 r y rfl rfl,by have:=h.len;simpa using this,fun i q z h1 h2=>h.at' (i+1) q z (by simpa using h1) (by simpa using h2)⟩
theorem VolsT.cons (h:VolT B w r y)(h':VolsT B w rows l):VolsT B w (r::rows) (y::l):=
 ⟨by simp[h'.len],fun i q z h1 h2=>by
  cases i with
  |zero=>simp at h1 h2;subst h1 h2;exact h
  |succ i=>exact h'.at' i q z (by simpa using h1) (by simpa using h2)⟩
theorem VolsT.filt {f:List UInt8}:∀ {rows:List VR} {l:List Vo},VolsT B w rows l->VolsT B w (rows.filter (fun r=>!(r.nm.toList==f))) (l.filter (fun y=>!(y.nm.toList==f)))
 |[],[],h=>h
 |[],_::_,h=>by have:=h.len;simp at this
 |_::_,[],h=>by have:=h.len;simp at this
 |r::rows,y::l,h=>by
  obtain⟨h1,h2⟩:=h.uncons;have e:=h1.nm;rw[ZH,ZH,e];split
  ·exact VolsT.cons h1 (VolsT.filt h2)
  ·exact VolsT.filt h2
theorem l2_ (xb:Nat)(vol:ByteArray):eV_ (fun u=>u.cell? ⟨xb,0,none⟩=some (.string vol)) (.func (.func 122) #[] #[.pointer (some ⟨xb,0,none⟩)]) (fun r=>r.nm.toList==vol.toList):=by
 refine⟨_,_,rfl,fun x y u=>by kernel_rfl,fun u r hu=>?_⟩;go_enter func122,ntmps122;have hx:=fun ob=>acell (w:=u) ob hu
 cases h:(r.nm.toList==vol.toList)
 ·have h':¬ r.nm.toList=vol.toList:=by simpa using h
  go_wp2;go_returns;exact⟨rfl,by go_grown⟩
 ·have h':r.nm.toList=vol.toList:=by simpa using h
  go_wp2;go_returns;exact⟨rfl,by go_grown⟩
theorem l3_ (S:Addr->Prop)(B pb:Nat)(h0:0<B)(p:Po)(ea:Option Addr)(en ec:Nat)(va:Option Addr)(vn vc:Nat)(ra:Option Addr)(rn rc:Nat)(la:Option Addr)(ln' lc:Nat)(rows:List VR)(vol:ByteArray)(hpb:B<=pb)(w:World)(hBw:B<=w.heap.size)(h:Own B pb w p ea en ec va vn vc ra rn rc la ln' lc rows)(hr:Rgt p)(hS:Sens S w)(hvl:vol.size<=1048576)(hv0:¬ vol.toList=[]):
  Calls prog 68 #[.pointer (some ⟨pb,0,none⟩),.iface 193 (.agg #[.string vol])] w fun e w'=>RetC S B pb w e w' (onVol p vol false (fun _ _=>.inr {p with vs:=p.vs.filter (fun v=>!(v.nm.toList==vol.toList))})):=by
 have h4:vn<=4000000:=by have h1:=h.RV.sl.len;have h2:=h.T.len;have h3:=hr.vn;omega
 obtain⟨vb,hz⟩:∃ vb,0<vn->va=some ⟨vb,0,none⟩:=by
  rcases h.RV.own with⟨h1,h2,h3⟩ | ⟨b,h1,_⟩
  ·exact⟨0,fun h=>absurd h (by omega)⟩
  ·exact⟨b,fun _=>h1⟩
 obtain⟨R,hR⟩:∃ R,Hid (onVol p vol false (fun _ _=>.inr {p with vs:=p.vs.filter (fun v=>!(v.nm.toList==vol.toList))})=R):=⟨_,rfl⟩;rw[hR.out];obtain⟨o,ho⟩:∃ o,Hid (volI p.vs vol=o):=⟨_,rfl⟩;obtain⟨p0,p1,p2,p3,p4,p5⟩:=h.P.six';go_enter func68,ntmps68
 go_wp2_with fail
 refine (bh_ B p.size p.next ea en ec va vn vc ra rn rc la ln' lc vb rows p.vs hz w h.RV h.T (by omega) hr.str hr.nd).mono ?_;rintro e w1 ⟨⟨mb,rfl,hE⟩,hv⟩;clear p0 p1 p2 p3 p4 p5;have h6:=hv.size;have _:=h0;have hN:=e2_ (.string vol);have hL:=bQ_
 go_wp2_with fail
 refine (aP_ vol w1).mono ?_;rintro e w2 ⟨rfl,hx⟩;have he:=hE vol w2 hvl hx;rw[ho.out] at he;clear hE;have hl:=chain hv hx;have h5:=hl.size;replace h:=h.below hl;replace hS:=hS.below hl;clear hv hx;have h7:vol.toList.isEmpty=false:=by cases hq:vol.toList with | nil=>exact absurd hq hv0 | cons _ _=>rfl
 cases o with
 |none=>
  dsimp only[ptrO] at he;have hX:Hid (R=.inl 3):=by show _=_;rw[<-hR.out];unfold onVol;rw[ho.out]
  clear hR ho
  go_wp2_with fail
  refine (aP_ vol w2).mono ?_;rintro e w3 ⟨rfl,hf⟩;replace hS:=hS.below hf;have hu:=chain hl hf;obtain⟨ev,hw,hU⟩:=hS.volume;have g:w3.cell? ⟨4,0,none⟩=_:=hw;go_wp2;go_returns;rw[hX.out];exact⟨⟨ev,hU,rfl⟩,hu.mono hBw⟩
 |some i=>
  dsimp only[ptrO] at he;have hF:=ap_ ho.out;obtain⟨y,hy⟩:∃ y,p.vs[i]?=some y:=⟨p.vs[i],by simp[hF]⟩;have hs:0<vn:=by have h1:=h.RV.sl.len;have h2:=h.T.len;omega
  obtain rfl:=hz hs
  have hB:Hid (R=if (false&&y.fx)=true then .inl 6 else (.inr {p with vs:=p.vs.filter (fun v=>!(v.nm.toList==vol.toList))}:Int⊕Po)):=by
   show _=_;rw[<-hR.out];unfold onVol;rw[ho.out];simp only[hy]
  clear hR ho hz hs;obtain⟨r,hG,F⟩:=h.foc hr hy;have hK:Hid (r.fx=y.fx):=F.v.fx;have x2:w2.cell? ⟨vb,i*4+2,none⟩=some (.bool r.fx):=F.rv.cellAt hG rfl;rw[hK.out] at x2;have hJ:=ex_ (.string vol);have hY:=bJ_;clear hF
  go_wp2_with fail
  refine (bK_ vol w2).mono ?_;rintro e w3 ⟨rfl,hf⟩;replace h:=h.below hf;replace hS:=hS.below hf;replace F:=F.below hf;replace x2:=bcell hf x2;have hu:=chain hl hf;have h8:=hu.size;clear hl hf he hN hL hJ hY;simp only[Zr,Zj,if_false] at hB;have t0:=dL_ (.agg #[.string vol]);have t1:=di_ (.agg #[.string vol]);have t2:=dM_ (.agg #[.string vol]);have t3:=dN_ (.agg #[.string vol]);have q3:∀ ob,(w3.alloc ob).cell? ⟨pb,3,none⟩=some (.slice (some ⟨vb,0,none⟩) vn vc):=fun ob=>acell (w:=w3) ob (h.P.cell 3)
  go_wp2_with fail
  have hA:Below w3.heap.size w3 (w3.alloc (.cells #[.string vol] 193)):=(Below.refl _ _).alloc (Zd _) _;have hW:=hA.size;have ha:=h.below hA;have hD:=chain hu hA;have X4:Blk (w3.alloc (.cells #[.string vol] 193)) w3.heap.size #[.string vol] 193:=Blk.new w3 _ _;have x4:(w3.alloc (.cells #[.string vol] 193)).cell? ⟨w3.heap.size,0,none⟩=some (.string vol):=X4.cell 0;have hH:¬ w3.heap.size=vb:=by have:=(h.RV.block _ rfl).2;simp only at this;omega
  refine (hY_ (fun u=>u.cell? ⟨w3.heap.size,0,none⟩=some (.string vol)) _ (fun r=>r.nm.toList==vol.toList) (l2_ w3.heap.size vol) (fun u u' h hb=>bcell hb h) B vb vn vc (fun u u' h hg=>hg.cell h (by simpa using hH)) rows (w3.alloc (.cells #[.string vol] 193)) ha.RV x4 (by omega)).mono ?_;rintro e w5 ⟨m,rfl,R5,hn⟩;obtain⟨cc,hm⟩:=ha.RV.blkAt;have hj:FrL [vb] (w3.alloc (.cells #[.string vol] 193)) w5:=FrL.of_grown hn (fun k e=>.inl (by cases e;simp))
  have hc:∀ t:TypeId,(97:TypeId)≠t->Oth (w3.alloc (.cells #[.string vol] 193)) [vb] t:=fun t ht k hk=>by
   simp at hk;subst hk;exact⟨cc,_,hm,ht⟩
  have hQ:B<=vb:=(ha.RV.block _ rfl).1;have P5:=ha.P.frlT hj (hc _ (by decide));have hT:=ha.RE.frlT hj (hc _ (by decide));have hP:=ha.RR.frlT hj (hc _ (by decide));have hV:=ha.RL.frlT hj (hc _ (by decide));have T5:=(ha.T.ty hn (aa_ hm) (by decide) (by decide)).filt (f:=vol.toList);have hC:=(hD.mono hBw).trans (hj.low (fun k hk=>by simp at hk;subst hk;exact hQ) (by omega));have hp:=ha.sep;have hM:SepV (rows.filter (fun r=>!(r.nm.toList==vol.toList))):=ha.sepV.sub List.filter_sublist;have hO:=ha.T.ty hn (aa_ hm) (by decide) (by decide);have hI:=kp_ ha.T ha.np hn (aa_ hm) (by decide);clear hA ha hD X4 x4 hm hn hc hj hW h;have f3:=P5.frozen 3;obtain⟨p0,p1,p2,p3,p4,p5⟩:=P5.six';go_wp2;go_returns;have hh:w5.grownBy (w5.setCell ⟨pb,3,none⟩ (.slice (some ⟨vb,0,none⟩) m vc)) (some pb):=af_ (World.grownBy.refl _ _) _ _;have P6:=P5.set 3 (.slice (some ⟨vb,0,none⟩) m vc);simp only[List.setIfInBounds_toArray,List.set_cons_zero,List.set_cons_succ] at P6;rw[hB.out];have hZ:NP (w5.setCell ⟨pb,3,none⟩ (.slice (some ⟨vb,0,none⟩) m vc)) (rows.filter (fun r=>!(r.nm.toList==vol.toList))):=(kp_ hO hI hh (aa_ P5) (by decide)).sublist (hC_ List.filter_sublist);exact⟨rfl,⟨ea,en,ec,_,m,vc,ra,rn,rc,la,ln',lc,_,P6,hT.ty hh (aa_ P5) (by decide),R5.ty hh (aa_ P5) (by decide),T5.ty hh (aa_ P5) (by decide) (by decide),hP.ty hh (aa_ P5) (by decide),hV.ty hh (aa_ P5) (by decide),hp,hM,hZ⟩,hC.grown hh (by have:=hC.size;omega) (fun j e=>by cases e;exact hpb)⟩
def addR (p:Po)(name:ByteArray)(its:List It):Int⊕Po:=match volI p.vs name with
 |some _=>.inl 4
 |none=>.inr {p with next:=p.next+1,vs:=p.vs++[⟨p.next,name,false,its⟩]}
theorem Own.endN {S:Addr->Prop}{va:Option Addr}(h:Own B pb w p ea en ec va vn vc ra rn rc la ln' lc rows)(hpb:B<=pb){name:ByteArray}{its:List It}(hb:Below w0.heap.size w0 w)(hB:B<=w0.heap.size){e:Ending}(hret:RetN S B pb p.size p.next ea en ec va vn ra rn rc la ln' lc p.vs rows name its w e w' (volI p.vs name)):RetC S B pb w0 e w' (addR p name its):=by
 have hz:=hb.size;unfold addR
 cases ho:volI p.vs name with
 |some _=>rw[ho] at hret;exact⟨hret.1,(chain hb hret.2).mono hB⟩
 |none=>
  rw[ho] at hret;obtain⟨he,va',vc',rows',h1,h2,h3,h4,r',hh,f1,f2,f3⟩:=hret;subst hh
  have hl:∀ k∈pb::blkOf va,B<=k:=fun k hk=>by
   rcases Zn.1 hk with rfl | hk
   ·exact hpb
   ·obtain⟨x,hf,hg⟩:=aO_.1 hk
    have:=(h.RV.block x hf).1
    omega
  have ha:∀ t:TypeId,(35:TypeId)≠t->(97:TypeId)≠t->Oth w (pb::blkOf va) t:=fun t t1 t2 k hk=>by
   rcases Zn.1 hk with rfl | hk
   ·exact⟨_,_,h.P,t1⟩
   ·obtain⟨x,hf,hg⟩:=aO_.1 hk;rcases h.RV.own with⟨q0,_⟩ | ⟨b,q1,_,_,_,c,hc,_⟩
    ·rw[q0] at hf;cases hf
    ·rw[q1] at hf
     cases hf
     simp only at hg;subst hg;exact⟨c,_,hc,t2⟩
  have hm:SepV (rows++[r']):=h.sepV.snoc (fun q hq x y hx hy=>by
   obtain⟨z,V⟩:=h.T.of_mem hq;obtain⟨rs,R,_⟩:=V.its;have q1:=(R.block x hx).2;have q2:=f1 y hy;omega)
  have hj:NP w' (rows++[r']):=by
   unfold NP;rw[ZQ,ZF,List.flatMap_nil,List.append_nil,bW_ (f:=pbk w') (g:=pbk w) (l:=rows) (fun q hq=>by obtain⟨z,V⟩:=h.T.of_mem hq;exact fP_ V (fun rs R=>(R.frlT h4 (ha _ (by decide) (by decide))).sl))];exact mE_ (n:=w.heap.size) h.np (mD_ h.T) f2 f3
  exact⟨he,⟨ea,en,ec,va',vn+1,vc',ra,rn,rc,la,ln',lc,_,h1,h.RE.frlT h4 (ha _ (by decide) (by decide)),h2,h3,h.RR.frlT h4 (ha _ (by decide) (by decide)),h.RL.frlT h4 (ha _ (by decide) (by decide)),h.sep,hm,hj⟩,(hb.mono hB).trans (h4.low hl (by omega))⟩
theorem l4_ (S:Addr->Prop)(B pb:Nat)(h0:0<B)(p:Po)(ea:Option Addr)(en ec:Nat)(va:Option Addr)(vn vc:Nat)(ra:Option Addr)(rn rc:Nat)(la:Option Addr)(ln' lc:Nat)(rows:List VR)(vol tt:ByteArray)(hpb:B<=pb)(htt:tt.size<=1048576)(hn1:0<=p.next)(hn2:p.next<=4611686018427387904)(hps:∀ v∈p.vs,∀ z∈v.its,z.ps.length<=4194304)(w:World)(hBw:B<=w.heap.size)(h:Own B pb w p ea en ec va vn vc ra rn rc la ln' lc rows)(hr:Rgt p)(hS:Sens S w)(hvl:vol.size<=1048576)(hv0:¬ vol.toList=[]):
  Calls prog 68 #[.pointer (some ⟨pb,0,none⟩),.iface 191 (.agg #[.string vol,.string tt])] w fun e w'=>RetC S B pb w e w' (onVol p vol false (fun _ y=>addR p tt y.its)):=by
 have hI:vn<=4000000:=by have h1:=h.RV.sl.len;have h2:=h.T.len;have h3:=hr.vn;omega
 obtain⟨vb,hu⟩:∃ vb,0<vn->va=some ⟨vb,0,none⟩:=by
  rcases h.RV.own with⟨h1,h2,h3⟩ | ⟨b,h1,_⟩
  ·exact⟨0,fun h=>absurd h (by omega)⟩
  ·exact⟨b,fun _=>h1⟩
 obtain⟨R,hR⟩:∃ R,Hid (onVol p vol false (fun _ y=>addR p tt y.its)=R):=⟨_,rfl⟩;rw[hR.out];obtain⟨o,ho⟩:∃ o,Hid (volI p.vs vol=o):=⟨_,rfl⟩;obtain⟨p0,p1,p2,p3,p4,p5⟩:=h.P.six';go_enter func68,ntmps68
 go_wp2_with fail
 refine (bh_ B p.size p.next ea en ec va vn vc ra rn rc la ln' lc vb rows p.vs hu w h.RV h.T (by omega) hr.str hr.nd).mono ?_;rintro e w1 ⟨⟨mb,rfl,hw⟩,hp⟩;clear p0 p1 p2 p3 p4 p5;have hM:=hp.size;have _:=h0;have hD:=e4_ (.string vol) (.string tt);have hC:=bQ_
 go_wp2_with fail
 refine (aP_ vol w1).mono ?_;rintro e w2 ⟨rfl,ht⟩;have he:=hw vol w2 hvl ht;rw[ho.out] at he;clear hw;have hh:=chain hp ht;have hJ:=hh.size;replace h:=h.below hh;replace hS:=hS.below hh;clear hp ht;have hO:vol.toList.isEmpty=false:=by cases hq:vol.toList with | nil=>exact absurd hq hv0 | cons _ _=>rfl
 cases o with
 |none=>
  dsimp only[ptrO] at he;have hG:Hid (R=.inl 3):=by show _=_;rw[<-hR.out];unfold onVol;rw[ho.out]
  clear hR ho
  go_wp2_with fail
  refine (aP_ vol w2).mono ?_;rintro e w3 ⟨rfl,hf⟩;replace hS:=hS.below hf;have hl:=chain hh hf;obtain⟨ev,hs,hF⟩:=hS.volume;have g:w3.cell? ⟨4,0,none⟩=_:=hs;go_wp2;go_returns;rw[hG.out];exact⟨⟨ev,hF,rfl⟩,hl.mono hBw⟩
 |some i=>
  dsimp only[ptrO] at he;have hx:=ap_ ho.out;obtain⟨y,hy⟩:∃ y,p.vs[i]?=some y:=⟨p.vs[i],by simp[hx]⟩;have hk:0<vn:=by have h1:=h.RV.sl.len;have h2:=h.T.len;omega
  obtain rfl:=hu hk
  have hv:Hid (R=if (false&&y.fx)=true then .inl 6 else addR p tt y.its):=by
   show _=_;rw[<-hR.out];unfold onVol;rw[ho.out];simp only[hy]
  clear hR ho hu hk;obtain⟨r,hn,F⟩:=h.foc hr hy;have hB:Hid (r.fx=y.fx):=F.v.fx;have x2:w2.cell? ⟨vb,i*4+2,none⟩=some (.bool r.fx):=F.rv.cellAt hn rfl;rw[hB.out] at x2;have hz:=ey_ (.string vol) (.string tt);have hH:=bJ_;clear hx
  go_wp2_with fail
  refine (bK_ vol w2).mono ?_;rintro e w3 ⟨rfl,hf⟩;replace h:=h.below hf;replace hS:=hS.below hf;replace F:=F.below hf;replace x2:=bcell hf x2;have hl:=chain hh hf;have hP:=hl.size;clear hh hf he hD hC hz hH;simp only[Zr,Zj,if_false] at hv;have t0:=dJ_ (.agg #[.string vol,.string tt]);have t1:=dh_ (.agg #[.string vol,.string tt]);have t2:=dK_ (.agg #[.string vol,.string tt])
  go_wp2_with fail
  have hA:Below w3.heap.size w3 ((w3.alloc (.cells #[.string vol,.string tt] 191)).drew):=((Below.refl _ _).alloc (Zd _) _).drew;have hQ:=hA.size;have hj:=h.below hA;have hg:=F.below hA;have hE:=chain hl hA;have X4:Blk ((w3.alloc (.cells #[.string vol,.string tt] 191)).drew) w3.heap.size #[.string vol,.string tt] 191:=(Blk.new w3 _ _).drew;have y3:((w3.alloc (.cells #[.string vol,.string tt] 191)).drew).cell? ⟨vb,i*4+3,none⟩=some (.slice r.pa r.pn r.pc):=hg.rv.cellAt hn rfl;have x4:((w3.alloc (.cells #[.string vol,.string tt] 191)).drew).cell? ⟨w3.heap.size,1,none⟩=some (.string tt):=X4.cell 1;have hL:(fun u=>u.cell? ⟨w3.heap.size,1,none⟩=some (.string tt)) ((w3.alloc (.cells #[.string vol,.string tt] 191)).drew):=x4;refine aC_ (S:=(fun u=>u.cell? ⟨w3.heap.size,1,none⟩=some (.string tt))) 9 (by kernel_rfl) rfl ?_;generalize (w3.alloc (.cells #[.string vol,.string tt] 191)).drew=w4 at *;refine tk 0 ?_;refine tk 1 ?_;refine tk 2 ?_;refine tk 3 ?_;refine tk 4 ?_;refine tk 5 ?_;refine oneL (i:=6) (by kernel_rfl) rfl (fun K hK=>?_);go_simp;refine hK.out _ _ x4 (fun hHeld=>?_);clear hK K
  try simp only[Act.put,lsA,lsB,lsC]
  refine oneL (i:=7) (by kernel_rfl) rfl (fun K hK=>?_);go_simp;have hN:=hg.v.at hg.rv hn;obtain⟨rs,RI,TI⟩:=hg.v.its;refine (ev_ S B h0 pb p.size p.next ea en ec (some ⟨vb,0,none⟩) vn vc ra rn rc la ln' lc vb p.vs rows tt r.pa r.pn r.pc y.its w4 (fun _=>rfl) (by omega) hj.P hj.RV hj.T (by omega) hr.str hr.nd htt hn1 hn2 (TI.rows.its RI) RI.hd (by have h1:=RI.sl.len;have h2:=TI.len;have h3:=hg.len;omega) (hps y (Zc hy)) (hS.below hA)).mono ?_;rintro e w5 ha;have hb:=hj.endN hpb hE hBw ha;rw[<-hv.out] at hb
  have x5:w5.cell? ⟨w3.heap.size,1,none⟩=some (.string tt):=by
   cases ho:volI p.vs tt with
   |some _=>rw[ho] at ha;exact bcell ha.2 x4
   |none=>
    rw[ho] at ha;obtain⟨_,_,_,_,_,_,_,h4,_⟩:=ha;refine (X4.frl h4 (fun hm=>?_)).cell 1;rcases Zn.1 hm with e | hm
    ·rw[e] at X4;exact bD_ X4 hj.P (by decide)
    ·simp[blkOf] at hm;rw[<-hm] at hg;obtain⟨c,hc⟩:=hg.rv.blkAt;exact bD_ X4 hc (by decide)
  cases ho:volI p.vs tt with
  |some _=>
   rw[ho] at ha;obtain⟨⟨er,_,rfl⟩,_⟩:=ha;unfold refV at hb ⊢;dsimp only;refine hK.out _ _ x5 (fun hHeld=>?_);clear hK K
   try simp only[Act.put,lsA,lsB,lsC]
   refine tk 8 ?_;refine wpAnyH_done (by kernel_rfl) ?_ _;go_wp2;go_returns;exact hb
  |none=>
   rw[ho] at ha;obtain⟨rfl,_⟩:=ha;dsimp only;refine hK.out _ _ x5 (fun hHeld=>?_);clear hK K
   try simp only[Act.put,lsA,lsB,lsC]
   refine tk 8 ?_;refine wpAnyH_done (by kernel_rfl) ?_ _;go_wp2;go_returns;exact hb
theorem l5_ (S:Addr->Prop)(B pb:Nat)(h0:0<B)(p:Po)(ea:Option Addr)(en ec:Nat)(va:Option Addr)(vn vc:Nat)(ra:Option Addr)(rn rc:Nat)(la:Option Addr)(ln' lc:Nat)(rows:List VR)(name:ByteArray)(hnm:name.size<=1048576)(hn1:0<=p.next)(hn2:p.next<=4611686018427387904)(w:World)(hBw:B<=w.heap.size)(h:Own B pb w p ea en ec va vn vc ra rn rc la ln' lc rows)(hr:Rgt p)(hS:Sens S w)(hpb:B<=pb)(hne:volI p.vs .empty=none):
  Calls prog 68 #[.pointer (some ⟨pb,0,none⟩),.iface 183 (.agg #[.string name])] w fun e w'=>RetC S B pb w e w' (addR p name []):=by
 have hy:vn<=4000000:=by have h1:=h.RV.sl.len;have h2:=h.T.len;have h3:=hr.vn;omega
 have _:=h0
 obtain⟨vb,hq⟩:∃ vb,0<vn->va=some ⟨vb,0,none⟩:=by
  rcases h.RV.own with⟨h1,h2,h3⟩ | ⟨b,h1,_⟩
  ·exact⟨0,fun h=>absurd h (by omega)⟩
  ·exact⟨b,fun _=>h1⟩
 obtain⟨p0,p1,p2,p3,p4,p5⟩:=h.P.six';go_enter func68,ntmps68
 go_wp2_with fail
 refine (bh_ B p.size p.next ea en ec va vn vc ra rn rc la ln' lc vb rows p.vs hq w h.RV h.T (by omega) hr.str hr.nd).mono ?_;rintro e w1 ⟨⟨mb,rfl,hk⟩,hh⟩;clear p0 p1 p2 p3 p4 p5;have hB:=hh.size;have hw:=e1_ (.string name);have hu:=df_
 go_wp2_with fail
 refine (bG_ w1).mono ?_;rintro e w2 ⟨rfl,hj⟩;have hc:=hk .empty w2 (by decide) hj;rw[hne] at hc;dsimp only[ptrO] at hc;clear hk hne;have hg:=chain hh hj;replace h:=h.below hg;replace hS:=hS.below hg;clear hh hj;have hx:ByteArray.empty.toList.isEmpty=true:=by rw[Zu];rfl
 go_wp2_with fail
 refine (bG_ w2).mono ?_;rintro e w3 ⟨rfl,hl⟩;have hs:=ew_ (.string name);have hv:=cN_;clear hc
 go_wp2_with fail
 refine (cO_ w3).mono ?_;rintro e w4 ⟨rfl,hn⟩;have hf:=chain hl hn;replace h:=h.below hf;replace hS:=hS.below hf;have hm:=chain hg hf;have hC:=hm.size;clear hl hn hg hf hw hs hu hv;have t0:=dI_ (.agg #[.string name])
 go_wp2_with fail
 have hA:Below w4.heap.size w4 (w4.alloc (.cells #[.string name] 183)):=(Below.refl _ _).alloc (Zd _) _;have ht:=hA.size;have he:=h.below hA;have hp:=chain hm hA;refine (ev_ S B h0 pb p.size p.next ea en ec va vn vc ra rn rc la ln' lc vb p.vs rows name none 0 0 [] _ hq (by omega) he.P he.RV he.T (by omega) hr.str hr.nd hnm hn1 hn2 ((RowsT.nil B _).rows.its (aB_ (B:=B) (t:=156))) (aB_ (B:=B) (t:=156) (w:=w4) (cs:=irs) (sz:=2)).hd (by omega) (fun z hz=>by cases hz) (hS.below hA)).mono ?_;rintro e w5 ha;have hb:=he.endN hpb hp hBw ha;clear hA ht he hp
 cases ho:volI p.vs name with
 |some _=>
  rw[ho] at ha;obtain⟨⟨er,_,rfl⟩,_⟩:=ha;unfold refV at hb ⊢;clear ho;go_wp2;go_returns;exact hb
 |none=>
  rw[ho] at ha;obtain⟨rfl,_⟩:=ha;clear ho;go_wp2;go_returns;exact hb
end
section
open Go Go.RowKit Go.BigFrame Tryz
variable{r:IR}{y:It}{e:List Ex}{rows:List IR}{l:List It}{B n2:Nat}{p:Po}{w3:World}
def flushP (p:Po):Po:={p with ex:=p.ex.filter (fun e=>((flushedO p.rf p.lt).getD []).any (fun c=>c.o.a==e.a)),rf:=(flushedO p.rf p.lt).getD [],lt:=[]}
theorem kR_ (S:Addr->Prop)(B pb:Nat)(h0:0<B)(p:Po)(ea:Option Addr)(en ec:Nat)(va:Option Addr)(vn vc:Nat)(ra:Option Addr)(rn rc:Nat)(la:Option Addr)(ln' lc:Nat)(rows:List VR)(hs1:StrC p.rf)(hs2:StrC p.lt)(hrn:p.rf.length<=4194304)(hln:p.lt.length<=4194304)(hen:p.ex.length<=4194304)(hFl:((flushedO p.rf p.lt).getD []).length<=200)(hFw:∀ c∈(flushedO p.rf p.lt).getD [],(Lit.int .i64 c.o.a).wf=true)(hxw:∀ z∈p.ex,(Lit.int .i64 z.a).wf=true)(w:World)(hBw:B<=w.heap.size)(h:Own B pb w p ea en ec va vn vc ra rn rc la ln' lc rows)(hr:Rgt p)(hS:Sens S w)(hpb:B<=pb)(hne:volI p.vs .empty=none):
  Calls prog 68 #[.pointer (some ⟨pb,0,none⟩),.iface 186 (.agg #[])] w fun e w'=>RetC S B pb w e w' (.inr (flushP p)):=by
 have hI:vn<=4000000:=by have h1:=h.RV.sl.len;have h2:=h.T.len;have h3:=hr.vn;omega
 have _:=h0
 obtain⟨vb,hE⟩:∃ vb,0<vn->va=some ⟨vb,0,none⟩:=by
  rcases h.RV.own with⟨h1,h2,h3⟩ | ⟨b,h1,_⟩
  ·exact⟨0,fun h=>absurd h (by omega)⟩
  ·exact⟨b,fun _=>h1⟩
 obtain⟨p0,p1,p2,p3,p4,p5⟩:=h.P.six';go_enter func68,ntmps68
 go_wp2_with fail
 refine (bh_ B p.size p.next ea en ec va vn vc ra rn rc la ln' lc vb rows p.vs hE w h.RV h.T (by omega) hr.str hr.nd).mono ?_;rintro e w1 ⟨⟨mb,rfl,hy⟩,hn⟩;clear p0 p1 p2 p3 p4 p5;have hJ:=hn.size;have hC:=eC_;have hB:=df_
 go_wp2_with fail
 refine (bG_ w1).mono ?_;rintro e w2 ⟨rfl,hp⟩;have he:=hy .empty w2 (by decide) hp;rw[hne] at he;dsimp only[ptrO] at he;clear hy hne;have hj:=chain hn hp;replace h:=h.below hj;replace hS:=hS.below hj;clear hn hp;have hL:ByteArray.empty.toList.isEmpty=true:=by rw[Zu];rfl
 go_wp2_with fail
 refine (bG_ w2).mono ?_;rintro e w3 ⟨rfl,hx⟩;have hz:=d9_;have hH:=cN_;clear he
 go_wp2_with fail
 refine (cO_ w3).mono ?_;rintro e w4 ⟨rfl,hv⟩;have hh:=chain hx hv;replace h:=h.below hh;replace hS:=hS.below hh;have ht:=chain hj hh;have hK:=ht.size;clear hx hv hj hh hC hz hB hH;have t0:=dg_ (.agg #[]);have t1:=cV_ (.agg #[])
 go_wp2_with fail
 have hA:Below w4.heap.size w4 (w4.alloc (.cells #[] 186)):=(Below.refl _ _).alloc (Zd _) _;have hG:=hA.size;have ha:=h.below hA;have hq:=chain ht hA;refine (lY_ B pb p.size p.next ea en ec (.slice va vn vc) ra rn rc la ln' lc p.ex p.rf p.lt _ _ (by omega) rfl ha.P ha.RE ha.RR.sl ha.RL.sl hs1 hs2 (by rw[<-ha.RR.sl.len];exact hrn) (by rw[<-ha.RL.sl.len];exact hln) (by rw[<-ha.RE.sl.len];exact hen) hFl hFw hxw).mono ?_;rintro e w5 ⟨rfl,ea',en',ec',ra',rn',rc',P5,hw,hs,hg⟩
 have hb:∀ t:TypeId,(35:TypeId)≠t->(103:TypeId)≠t->Oth (w4.alloc (.cells #[] 186)) (pb::blkOf ea) t:=fun t t1 t2 k hk=>by
  rcases Zn.1 hk with rfl | hk
  ·exact⟨_,_,ha.P,t1⟩
  ·obtain⟨z,hf,ho⟩:=aO_.1 hk;rcases ha.RE.own with⟨q0,_⟩ | ⟨b,q1,_,_,_,c,hc,_⟩
   ·rw[q0] at hf;cases hf
   ·rw[q1] at hf
    cases hf
    simp only at ho;subst ho;exact⟨c,_,hc,t2⟩
 have hu:∀ k∈pb::blkOf ea,B<=k:=fun k hk=>by
  rcases Zn.1 hk with rfl | hk
  ·exact hpb
  ·obtain⟨z,hf,ho⟩:=aO_.1 hk
   have:=(ha.RE.block z hf).1
   omega
 have T5:VolsT B w5 rows p.vs:=⟨ha.T.len,fun i r y h1 h2=>(ha.T.at' i r y h1 h2).frl hg (hb _ (by decide) (by decide)) (fun ad e hm=>by
  obtain⟨rs,R,_⟩:=(ha.T.at' i r y h1 h2).its;obtain⟨c',t',hF,hD⟩:=hb 156 (by decide) (by decide) _ hm;rcases R.own with⟨q0,_⟩ | ⟨b,q1,_,_,_,c,hc,_⟩
  ·rw[q0] at e;cases e
  ·rw[q1] at e;cases e;exact bD_ hF hc hD)⟩
 have hl:RetC S B pb w (.returned .nilIface) w5 (.inr (flushP p)):=⟨rfl,⟨ea',en',ec',va,vn,vc,ra',rn',rc',none,0,0,rows,P5,hw,ha.RV.frlT hg (hb _ (by decide) (by decide)),T5,hs,aB_,(fun x y _ e=>by cases e),ha.sepV,g3_ ha.T ha.np (fun r hr rs R=>(R.frlT hg (hb _ (by decide) (by decide))).sl)⟩,(hq.mono hBw).trans (hg.low hu (by omega))⟩;clear hA hG ha hq hg hb hu T5 P5 hw hs;go_wp2;go_returns;exact hl
def carR (p:Po)(k:Int)(vol file tt into:ByteArray)(at' fr ln:Int)(data:ByteArray):Int⊕Po:=
 if k=1 then addR p vol [] else
 if k=7 then onVol p vol false (fun _ _=>.inr {p with vs:=p.vs.filter (fun v=>!(v.nm.toList==vol.toList))}) else
 if k=8 then onVol p vol false (fun i y=>(if y.fx=true then .inl 6 else .inr {p with vs:=p.vs.set i {y with fx:=true}}:Int⊕Po)) else
 if k=6 then onVol p vol false (fun _ y=>addR p tt y.its) else
 if k=2 then onVol p vol true (fun i y=>setVW p i y (writeR p.size p.ex y file at' data)) else
 if k=3 then onVol p vol true (fun i y=>setV p i y (cutR y file ln)) else
 if k=4 then onVol p vol true (fun i y=>setV p i y (unlinkR y file)) else
 if k=10 then onVol p vol true (fun i y=>setV p i y (punchR y file at' ln)) else
 if k=5 then onVol p tt true (fun i y=>setV p i y (copyR p.vs y into at' vol file fr (fr+ln))) else
 .inr (flushP p)
structure CarP (p:Po):Prop where
 rgt:Rgt p
 ne:volI p.vs .empty=none
 n1:0<=p.next
 n2:p.next<=4611686018427387904
 ps:∀ v∈p.vs,∀ z∈v.its,z.ps.length<=4194304
 ex:Strs p.ex
 el:p.ex.length<=4194304
 s1:StrC p.rf
 s2:StrC p.lt
 rl:p.rf.length<=4194304
 ll:p.lt.length<=4194304
 fl:((flushedO p.rf p.lt).getD []).length<=200
 fw:∀ c∈(flushedO p.rf p.lt).getD [],(Lit.int .i64 c.o.a).wf=true
 xw:∀ z∈p.ex,(Lit.int .i64 z.a).wf=true
structure CarO (k:Int)(vol tt data:ByteArray):Prop where
 vs:vol.size<=1048576
 ts:tt.size<=1048576
 ds:data.size<=1000000
 vol0:¬ k=9->¬ vol.toList=[]
 tt0:k=5->¬ tt.toList=[]
theorem iv_ (S:Addr->Prop)(B pb:Nat)(h0:0<B)(p:Po)(ea:Option Addr)(en ec:Nat)(va:Option Addr)(vn vc:Nat)(ra:Option Addr)(rn rc:Nat)(la:Option Addr)(ln' lc:Nat)(rows:List VR)(k:Int)(vol file tt into:ByteArray)(at' fr ln:Int)(data:ByteArray)(hpb:B<=pb)(hgl:11<=B)(hc:CarP p)(ho:CarO k vol tt data)(w:World)(hBw:B<=w.heap.size)(h:Own B pb w p ea en ec va vn vc ra rn rc la ln' lc rows)(hS:Sens S w):
  Calls prog 68 #[.pointer (some ⟨pb,0,none⟩),ordV k vol file tt into at' fr ln data] w fun e w'=>RetC S B pb w e w' (carR p k vol file tt into at' fr ln data):=by
 by_cases h1:k=1
 ·subst h1;exact l5_ S B pb h0 p ea en ec va vn vc ra rn rc la ln' lc rows vol ho.vs hc.n1 hc.n2 w hBw h hc.rgt hS hpb hc.ne
 by_cases h7:k=7
 ·subst h7;exact l3_ S B pb h0 p ea en ec va vn vc ra rn rc la ln' lc rows vol hpb w hBw h hc.rgt hS ho.vs (ho.vol0 (by decide))
 by_cases h8:k=8
 ·subst h8;exact nD_ S B pb h0 p ea en ec va vn vc ra rn rc la ln' lc rows vol w hBw h hc.rgt hS ho.vs (ho.vol0 (by decide))
 by_cases h6:k=6
 ·subst h6;exact l4_ S B pb h0 p ea en ec va vn vc ra rn rc la ln' lc rows vol tt hpb ho.ts hc.n1 hc.n2 hc.ps w hBw h hc.rgt hS ho.vs (ho.vol0 (by decide))
 by_cases h2:k=2
 ·subst h2;exact kQ_ S B pb h0 p ea en ec va vn vc ra rn rc la ln' lc rows vol file at' data hpb hgl hc.ex hc.el ho.ds w hBw h hc.rgt hS ho.vs (ho.vol0 (by decide))
 by_cases h3:k=3
 ·subst h3;exact nC_ S B pb h0 p ea en ec va vn vc ra rn rc la ln' lc rows vol file ln w hBw h hc.rgt hS ho.vs (ho.vol0 (by decide))
 by_cases h4:k=4
 ·subst h4;exact jB_ S B pb h0 p ea en ec va vn vc ra rn rc la ln' lc rows vol file w hBw h hc.rgt hS ho.vs (ho.vol0 (by decide))
 by_cases h10:k=10
 ·subst h10;exact kO_ S B pb h0 p ea en ec va vn vc ra rn rc la ln' lc rows vol file at' ln w hBw h hc.rgt hS ho.vs (ho.vol0 (by decide))
 by_cases h5:k=5
 ·subst h5;exact l1_ S B pb h0 p ea en ec va vn vc ra rn rc la ln' lc rows tt into at' vol file fr (fr+ln) ho.vs w hBw h hc.rgt hS ho.ts (ho.tt0 rfl)
 have e1:ordV k vol file tt into at' fr ln data=.iface 186 (.agg #[]):=by unfold ordV;simp only[h1,h7,h8,h6,h2,h3,h4,h10,h5,if_false]
 have e2:carR p k vol file tt into at' fr ln data=.inr (flushP p):=by unfold carR;simp only[h1,h7,h8,h6,h2,h3,h4,h10,h5,if_false]
 rw[e1,e2];exact kR_ S B pb h0 p ea en ec va vn vc ra rn rc la ln' lc rows hc.s1 hc.s2 hc.rl hc.ll hc.el hc.fl hc.fw hc.xw w hBw h hc.rgt hS hpb hc.ne
theorem mS_:∀ {l:List It} {q:Option It},igo e q l=true->(∀ p,q=some p->∀ x∈l,bl p.nm.toList x.nm.toList=true)∧RisI l
 |[],_,_=>⟨fun _ _ x hx=>absurd hx (by simp),List.Pairwise.nil⟩
 |x::r,q,h=>by
  simp only[igo,Zf] at h;obtain⟨h1,h2⟩:=mS_ h.2;have h3:=h1 x rfl;refine⟨fun p hp z hz=>?_,List.Pairwise.cons h3 h2⟩;subst hp;have h4:=h.1.1.2;simp only at h4;rcases Zn.1 hz with rfl | hz
  ·exact h4
  ·exact hl_ h4 (h3 z hz)
theorem iX_ (h:itemsB l e=true):RisI l∧l.length<=5:=by
 simp only[itemsB,Zf,ZU] at h;exact⟨(mS_ h.2).2,h.1⟩
theorem cm_ {d:ByteArray}(h:nameB d=true):¬ d.toList=[]:=by
 simp only[nameB,Zf,ZU] at h;intro e;rw[Zu] at e;have h1:d.data.toList.length=d.size:=by simp
 rw[e] at h1;simp at h1;omega
theorem p8_ (h:poolB p=true)(hd:DimP p):Rgt p:=by
 obtain⟨h1,h2,_,_,h5⟩:=bL_ h;exact⟨by omega,hd.2.2.2.1,h5,fun v hv=>by have:=iX_ (b0_ h2 v hv).1;exact⟨this.1,by omega⟩⟩
theorem oI_ (h:poolB p=true):volI p.vs .empty=none:=by
 obtain⟨_,h2,_⟩:=bL_ h;unfold volI;rw[List.findIdx?_eq_none_iff];intro v hv
 have:=cm_ (b0_ h2 v hv).2.1
 have h0:ByteArray.empty.toList=[]:=by rw[Zu];rfl
 rw[h0];simpa using this
end
end Go.Proofs.YtbbhcnjhohidnaaGreatDoor
