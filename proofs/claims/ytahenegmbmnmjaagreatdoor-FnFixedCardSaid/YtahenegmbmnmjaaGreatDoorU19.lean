/- A volume looked up by its name; a piece of one file copied into another. -/
import Derived.Test.YtahenegmbmnmjaaGreatDoorU18
set_option maxHeartbeats 20000000
set_option maxRecDepth 100000
namespace Go.Proofs.YtahenegmbmnmjaaGreatDoor
section
open Go Go.RowKit Go.BigFrame Tryz
variable{α:Type}{bs:List Nat}{rows:List VR}{vs:List Vo}{B b ec en i lc ln' n pb rc rn vb vc vn:Nat}{ea la ra:Option Addr}{p:Po}{t:TypeId}{r r':VR}{y:Vo}{w w':World}{l:List α}{x:α}
theorem lY_ (B:Nat)(pb:Nat)(size next:Int)(ea:Option Addr)(en ec:Nat)(vv:Value)(ra:Option Addr)(rn rc:Nat)(la:Option Addr)(ln lc:Nat)(ex:List Ex)(rf lt F:List Ct)(w:World)(hBw:B<=w.heap.size)(hF:(Aq rf lt).getD []=F)(P:Blk w pb #[.int .i64 size,.int .i64 next,.slice ea en ec,vv,.slice ra rn rc,.slice la ln lc] 35)(RE:Ae Ex.cs 2 76 w B ea en ec ex)(RR:A5 w ra rn rf)(RL:A5 w la ln lt)(hs1:By rf)(hs2:By lt)(hrn:rn<=4194304)(hln:ln<=4194304)(hen:en<=4194304)(hFl:F.length<=200)(hFw:∀ c∈F,(Lit.int .i64 c.o.a).wf=true)(hxw:∀ x∈ex,(Lit.int .i64 x.a).wf=true):
  Calls prog 173 #[.pointer (some ⟨pb,0,none⟩)] w fun e w'=>e=.returned (.tuple #[])∧∃ ea' en' ec' ra' rn' rc',Blk w' pb #[.int .i64 size,.int .i64 next,.slice ea' en' ec',vv,.slice ra' rn' rc',.slice none 0 0] 35∧Ae Ex.cs 2 76 w' B ea' en' ec' (ex.filter (fun e=>F.any (fun c=>c.o.a==e.a)))∧Ae Ct.cs 4 80 w' B ra' rn' rc' F∧FrL (pb::AU ea) w w':=by
 have hX:=@run_makeMap prog;have hW:Below w.heap.size w w.drew:=(Yg _ _).drew;obtain⟨p0,p1,p2,p3,p4,p5⟩:=P.six';go_enter func173,ntmps173
 go_wp2_with fail
 have hU:(fun u=>u.cell? ⟨pb,5,none⟩=some (.slice la ln lc)) w.drew:=p5;refine aC_ (S:=(fun u=>u.cell? ⟨pb,5,none⟩=some (.slice la ln lc))) 16 (by kernel_rfl) rfl ?_;have q4:w.drew.cell? ⟨pb,4,none⟩=some (.slice ra rn rc):=p4;refine tk 0 ?_;refine tk 1 ?_;refine tk 2 ?_;refine tk 3 ?_;refine tk 5 ?_;refine tk 6 ?_;refine tk 7 ?_;refine tk 8 ?_;refine AX (i:=4) (by kernel_rfl) rfl (fun K hK=>?_);go_simp;refine hK.out _ _ p5 (fun hHeld=>?_);clear hK K
 try simp only[Act.put,lsA,lsB,lsC]
 refine AX (i:=9) (by kernel_rfl) rfl (fun K hK=>?_);go_simp;refine (fX_ ra rn rc rf la ln lc lt w.drew (RR.below hW) (RL.below hW) hs1 hs2 hrn hln).mono ?_;rintro e w1 ⟨ha,hc⟩;replace hc:Below w.heap.size w w1:=Aa hW hc
 obtain⟨fa,fn,fc,bk,rfl,h5,RF⟩:∃ fa fn fc bk,e=.returned (.tuple #[.slice fa fn fc,.bool bk])∧fn<=200∧Ae Ct.cs 4 80 w1 w.drew.heap.size fa fn fc F:=by
  cases hO:Aq rf lt with
  |none=>
   rw[hO] at ha hF;have hw:F=[]:=hF.symm;subst hw;exact⟨none,0,0,false,ha,by omega,aB_⟩
  |some L=>
   rw[hO] at ha hF;have hw:F=L:=hF.symm;subst hw;obtain⟨fa,fn,fc,he,h1,h2⟩:=ha;exact⟨fa,fn,fc,true,he,h1,h2⟩
 clear ha hF;have qb:w.drew.heap.size=w.heap.size:=rfl;replace P:=P.below hc;replace RE:=RE.below hc;have h9:=hc.size;clear p0 p1 p2 p3 p4 p5;dsimp only;obtain⟨p0,p1,p2,p3,p4,p5⟩:=P.six';have f4:=P.frozen 4;refine hK.out _ _ p5 (fun hHeld=>?_);clear hK K
 try simp only[Act.put,lsA,lsB,lsC]
 refine tk 10 ?_;refine tk 11 ?_;refine tk 12 ?_;refine tk 13 ?_;refine tk 14 ?_;refine AX (i:=15) (by kernel_rfl) rfl (fun K hK=>?_);go_simp;have hl:w1.grownBy (w1.setCell ⟨pb,4,none⟩ (.slice fa fn fc)) (some pb):=af_ (Yh _ _) _ _;have P2:=P.set 4 (.slice fa fn fc);simp only[Yj,Yq,Yr] at P2;have hC:=RE.ty hl (aa_ P) (by decide);have hE:=(RF.ty hl (aa_ P) (by decide)).mono (show B<=w.drew.heap.size by omega);have hG:=(FrL.of_below (bs:=pb::AU ea) hc).new (FrL.of_grown (bs:=[pb]) hl (fun k e=>.inl (by cases e;simp))) (fun k hk=>.inl (by simp at hk;subst hk;simp));have qa:w1.heap.size<=(w1.setCell ⟨pb,4,none⟩ (.slice fa fn fc)).heap.size:=hl.size;refine hK.out _ _ (P2.cell 5) (fun hHeld=>?_);clear hK K
 try simp only[Act.put,lsA,lsB,lsC]
 generalize w1.setCell ⟨pb,4,none⟩ (.slice fa fn fc)=w2 at *;refine wpAnyH_done (by kernel_rfl) ?_ _;clear hHeld hU RR RL p0 p1 p2 p3 p4 p5 f4 hl P RE RF q4 hc;obtain⟨p0,p1,p2,p3,p4,p5⟩:=P2.six';have f5:=P2.frozen 5;have P3:=P2.set 5 (.slice none 0 0);simp only[Yj,Yq,Yr] at P3;have r4:(((w2.setCell ⟨pb,5,none⟩ (.slice none 0 0)).alloc (.map #[] 0)).alloc (.cells #[.map (some w2.heap.size)] 212)).cell? ⟨pb,4,none⟩=some (.slice fa fn fc):=((P3.alloc _).alloc _).cell 4;clear P3
 go_wp2_with fail
 have hn:w2.grownBy (w2.setCell ⟨pb,5,none⟩ (.slice none 0 0)) (some pb):=af_ (Yh _ _) _ _;have P3:=P2.set 5 (.slice none 0 0);simp only[Yj,Yq,Yr] at P3;have hr:=hC.ty hn (aa_ P2) (by decide);have hm:=hE.ty hn (aa_ P2) (by decide);have hH:=hG.new (FrL.of_grown (bs:=[pb]) hn (fun k e=>.inl (by cases e;simp))) (fun k hk=>.inl (by simp at hk;subst hk;simp));have hq:w2.heap.size=(w2.setCell ⟨pb,5,none⟩ (.slice none 0 0)).heap.size:=by simp
 have hM:=BF.made (w2.setCell ⟨pb,5,none⟩ (.slice none 0 0));rw[<-hq] at hM;have hu:Below w2.heap.size (w2.setCell ⟨pb,5,none⟩ (.slice none 0 0)) (((w2.setCell ⟨pb,5,none⟩ (.slice none 0 0)).alloc (.map #[] 0)).alloc (.cells #[.map (some w2.heap.size)] 212)):=by rw[hq];exact ((Yg _ _).alloc (Zd _) _).alloc (by simp) _
 have hN:BF (((w2.setCell ⟨pb,5,none⟩ (.slice none 0 0)).alloc (.map #[] 0)).alloc (.cells #[.map (some w2.heap.size)] 212)) w2.heap.size 0 []:=hM.below ((Yg _ _).alloc (Zd _) _);have N3:Blk (((w2.setCell ⟨pb,5,none⟩ (.slice none 0 0)).alloc (.map #[] 0)).alloc (.cells #[.map (some w2.heap.size)] 212)) (w2.heap.size+1) #[.map (some w2.heap.size)] 212:=Blk.new' _ _ _ _ (by simp);clear hM hn hC hE hG P2 p0 p1 p2 p3 p4 p5 f5;generalize (((w2.setCell ⟨pb,5,none⟩ (.slice none 0 0)).alloc (.map #[] 0)).alloc (.cells #[.map (some w2.heap.size)] 212))=W4 at *;generalize w2.setCell ⟨pb,5,none⟩ (.slice none 0 0)=w3 at *;rw[hq] at hu;have hY:w2.heap.size<=w3.heap.size:=by omega
 have hZ:w3.heap.size<=w2.heap.size:=by omega
 clear hq hX hHeld r4 hs1 hs2;have nF:Hid (F.length=fn):=hm.sl.len
 go_loopw [29] (fun ix wr=>∃ (k:Nat),k<=fn∧ix=.int .i64 k∧BF wr w2.heap.size k (F.take k)∧Blk wr (w2.heap.size+1) #[.map (some w2.heap.size)] 212∧Below w3.heap.size w3 wr) (fun ix _=>fn-(intOf ix).toNat)
 case atStart=>exact⟨0,Zg _,rfl,hN,N3,hu⟩
 case round=>
  clear hN N3 hu;obtain⟨k,hk,rfl,A,N,hB⟩:=hrel;have h0:=hB.size;by_cases hlt:k<fn
  ·obtain⟨b,o,p,rfl,hp,c0,c1,c2,c3⟩:=aN_ (hm.sl.below hB) hlt;have hQ:=hFw p (Zc hp);have h6:(k:Int)<fn:=by omega
   have h7:(0:Int)<=k:=by omega
   have h8:(F.take k).length<=200:=by rw[Zz];omega
   have hP:Hid (F.take k++[p]=F.take (k+1)):=(bx_ hp).symm;have hV:=fY_ p.o.a (F.take k);have gW:wr.grownBy (wr.alloc (.cells #[.int .i64 p.o.a,.int .i64 p.o.v,.string p.o.f,.int .i64 p.n] 80)) (some w2.heap.size):=Yl wr _ _;have A1:BF (wr.alloc (.cells #[.int .i64 p.o.a,.int .i64 p.o.v,.string p.o.f,.int .i64 p.n] 80)) w2.heap.size k (F.take k):=A.kept (Yl wr _ none) (by simp);have z0:(wr.alloc (.cells #[.int .i64 p.o.a,.int .i64 p.o.v,.string p.o.f,.int .i64 p.n] 80)).cell? ⟨wr.heap.size,0,none⟩=some (.int .i64 p.o.a):=by simp
   have z1:(wr.alloc (.cells #[.int .i64 p.o.a,.int .i64 p.o.v,.string p.o.f,.int .i64 p.n] 80)).cell? ⟨w2.heap.size+1,0,none⟩=some (.map (some w2.heap.size)):=(N.alloc _).cell 0;have r1:=A1.look hQ;obtain⟨w5,r2,A2,g2⟩:=A1.bump (by unfold maxLen;omega) (by omega) hQ;have g3:wr.grownBy w5 (some w2.heap.size):=gW.andThen g2 (fun j hj=>by cases hj;exact .inr rfl);have hR:Below w3.heap.size w3 w5:=hB.grown g3 hB.size (fun j hj=>by cases hj;omega);have N5:Blk w5 (w2.heap.size+1) #[.map (some w2.heap.size)] 212:=(g3.block _ N.lt (by simp)).trans N;rw[hP.out] at A2;clear hp A A1 hP N gW g2 g3 h0;generalize Cp p.o.a (F.take k)=Z at *;obtain⟨h3,h4⟩:=hV;go_wp2;go_roundw
   case rel=>exact⟨k+1,by omega,by go_num,A2,N5,hR⟩
   case measure=>simp[intOf];omega
  ·obtain rfl:k=fn:=by omega
   rw[Zk (Zm nF.out)] at A;have P4:=P3.below hB;have hh:=hr.below hB;have hs:=hm.below hB;have hI:=hH.new (FrL.of_below (bs:=[]) hB) (fun k hk=>by simp at hk);have n0:wr.cell? ⟨w2.heap.size+1,0,none⟩=some (.map (some w2.heap.size)):=N.cell 0;have hL:Gl (w2.heap.size+1) w2.heap.size F wr:=⟨n0,_,A⟩;have hJ:∀ u u',Gl (w2.heap.size+1) w2.heap.size F u->Below u.heap.size u u'->Gl (w2.heap.size+1) w2.heap.size F u':=fun u u' h hb=>⟨Ab hb h.1,h.2.elim (fun n h=>⟨n,h.below hb⟩)⟩;have hS:∀ ad,ea=some ad->ad.block<w3.heap.size:=fun ad e=>(hr.block ad e).2;clear P3 hr hm hH A n0 N;obtain⟨p0,p1,p2,p3,p4,p5⟩:=P4.six';rcases hh.own with⟨rfl,rfl,rfl⟩ | ⟨eb,rfl,_⟩
   ·obtain rfl:ex=[]:=Zt hh.sl.len
    go_wp2_with fail
    refine (gY_ (Gl (w2.heap.size+1) w2.heap.size F) _ _ (gM_ (w2.heap.size+1) w2.heap.size F [] hxw) hJ wr hL).mono ?_;rintro e w6 ⟨rfl,hv⟩;replace P4:=P4.below hv;have ht:=hs.below hv;have f2:=P4.frozen 2;clear p0 p1 p2 p3 p4 p5;obtain⟨p0,p1,p2,p3,p4,p5⟩:=P4.six';go_wp2;go_returns;have hf:w6.grownBy (w6.setCell ⟨pb,2,none⟩ (.slice none 0 0)) (some pb):=af_ (Yh _ _) _ _;have P7:=P4.set 2 (.slice none 0 0);simp only[Yj,Yq,Yr] at P7;exact⟨rfl,none,0,0,fa,k,fc,P7,aB_,ht.ty hf (aa_ P4) (by decide),(hI.new (FrL.of_below (bs:=[]) hv) (fun k hk=>by simp at hk)).new (FrL.of_grown (bs:=[pb]) hf (fun k e=>.inl (by cases e;simp))) (fun k hk=>.inl (by simp at hk;subst hk;simp))⟩
   ·have hy:=hS _ rfl;simp only at hy;have hA:¬ (w2.heap.size+1=eb):=by omega
    have hz:¬ (w2.heap.size=eb):=by omega
    go_wp2_with fail
    refine (hW_ ex (Gl (w2.heap.size+1) w2.heap.size F) _ _ (gM_ (w2.heap.size+1) w2.heap.size F ex hxw) hJ B eb en ec (fun u u' h hg=>⟨hg.cell h.1 (by simpa using hA),h.2.elim (fun n h=>⟨n,h.kept hg (by simpa using hz)⟩)⟩) wr hh hL hen).mono ?_;rintro e w6 ⟨m,rfl,hD,ho⟩;obtain⟨cc,hx⟩:=hh.blkAt;have P6:=P4.ty ho (aa_ hx) (by decide);have ht:=hs.ty ho (aa_ hx) (by decide);have hT:=hI.new (FrL.of_grown (bs:=[eb]) ho (fun k e=>.inl (by cases e;simp))) (fun k hk=>.inl (by simp at hk;subst hk;simp[AU]));have f2:=P6.frozen 2;rw[lX_] at hD;clear p0 p1 p2 p3 p4 p5 hx ho P4 hs hh;obtain⟨p0,p1,p2,p3,p4,p5⟩:=P6.six';go_wp2;go_returns;have hf:w6.grownBy (w6.setCell ⟨pb,2,none⟩ (.slice (some ⟨eb,0,none⟩) m ec)) (some pb):=af_ (Yh _ _) _ _;have P7:=P6.set 2 (.slice (some ⟨eb,0,none⟩) m ec);simp only[Yj,Yq,Yr] at P7;exact⟨rfl,some ⟨eb,0,none⟩,m,ec,fa,k,fc,P7,hD.ty hf (aa_ P6) (by decide),ht.ty hf (aa_ P6) (by decide),hT.new (FrL.of_grown (bs:=[pb]) hf (fun k e=>.inl (by cases e;simp))) (fun k hk=>.inl (by simp at hk;subst hk;simp))⟩
theorem jz_ (b m:Nat)(f:Ow->Int)(a:Option Addr)(n cap:Nat)(l:List Ct)(w:World)(hT:A0 w b m f)(h:A5 w a n l)(hw:WfC l)(hn:n<=1000000)(hm:m<=1000000)(hb:∀ x∈l,-1000000<=x.n∧x.n<=1000000)(hf:∀ o,-1000000000000<=f o∧f o<=1000000000000):
  Calls prog 120 #[.map (some b),.slice a n cap] w fun e w'=>e=.returned (.tuple #[])∧A0 w' b (m+n) (fun o=>f o-tot o l)∧w.grownBy w' (some b):=by
 have hc:Hid (l.length=n):=h.len;go_enter func120,ntmps120
 go_wp2_with fail
 go_loopw [8] (fun ix wr=>∃ (k:Nat),k<=n∧ix=.int .i64 k∧A0 wr b (m+k) (fun o=>f o-tot o (l.take k))∧w.grownBy wr (some b)) (fun ix _=>n-(intOf ix).toNat)
 case atStart=>exact⟨0,Zg _,rfl,hT.congr (fun o=>by simp[tot]),⟨rfl,rfl,rfl,Zd _,fun _ _ _=>rfl⟩⟩
 case round=>
  obtain⟨k,hk,rfl,T2,hG⟩:=hrel;by_cases hlt:k<n
  ·obtain⟨bb,oo,p,rfl,hp,c0,c1,c2,c3⟩:=aN_ h hlt;have ha:=hT.apart c0;have d0:=hG.cell c0 (by simpa using ha);have d1:=hG.cell c1 (by simpa using ha);have d2:=hG.cell c2 (by simpa using ha);have d3:=hG.cell c3 (by simpa using ha);have hs:=hw p (Zc hp);have ho:=hb p (Zc hp);have he:=fh_ hp;have hg:=eR_ (M:=1000000) (by omega) (l:=l.take k) (fun x hx=>hb x (ZX hx));clear c0 c1 c2 c3
   go_wp2_with fail
   have z0:(wr.alloc (.cells #[.int .i64 p.o.a,.int .i64 p.o.v,.string p.o.f,.int .i64 p.n] 80)).cell? ⟨wr.heap.size,0,none⟩=some (.int .i64 p.o.a):=by simp
   have z1:(wr.alloc (.cells #[.int .i64 p.o.a,.int .i64 p.o.v,.string p.o.f,.int .i64 p.n] 80)).cell? ⟨wr.heap.size,1,none⟩=some (.int .i64 p.o.v):=by simp
   have z2:(wr.alloc (.cells #[.int .i64 p.o.a,.int .i64 p.o.v,.string p.o.f,.int .i64 p.n] 80)).cell? ⟨wr.heap.size,2,none⟩=some (.string p.o.f):=by simp
   have z3:(wr.alloc (.cells #[.int .i64 p.o.a,.int .i64 p.o.v,.string p.o.f,.int .i64 p.n] 80)).cell? ⟨wr.heap.size,3,none⟩=some (.int .i64 p.n):=by simp
   have hr:w.grownBy (wr.alloc (.cells #[.int .i64 p.o.a,.int .i64 p.o.v,.string p.o.f,.int .i64 p.n] 80)) (some b):=hG.andThen (Yl wr _ (some b)) (fun j hj=>by cases hj;exact .inr rfl);have T3:A0 (wr.alloc (.cells #[.int .i64 p.o.a,.int .i64 p.o.v,.string p.o.f,.int .i64 p.n] 80)) b (m+k) (fun o=>f o-tot o (l.take k)):=T2.kept (Yl wr _ none) (by simp);generalize wr.alloc (.cells #[.int .i64 p.o.a,.int .i64 p.o.v,.string p.o.f,.int .i64 p.n] 80)=W at *;have T4:A0 W.drew b (m+k) (fun o=>f o-tot o (l.take k)):=T3;obtain⟨st,w1,e1,e2,e3,g1,e4⟩:=T4.entry (by unfold maxLen;omega) hs;have hv:((l.take k).length:Int)<=n:=by simp;omega
   have hC:-3000000000000<=f p.o-tot p.o (l.take k)∧f p.o-tot p.o (l.take k)<=3000000000000:=by
    have h1:=hf p.o;have h2:=hg p.o;omega
   obtain⟨w3,e5,T5,g3⟩:=e4 (f p.o-tot p.o (l.take k)-p.n) (Yz (by omega));clear e4 T4 T3 T2 d0 d1 d2 d3 hg
   have hl:A0 w3 b (m+(k+1)) (fun o=>f o-tot o (l.take (k+1))):=T5.congr (fun o=>by
    rw[he o];split
    ·rename_i hh;rw[aM_.1 hh];omega
    ·omega)
   clear T5 he;generalize f p.o-tot p.o (l.take k)=C at *;obtain⟨ht,hu⟩:=hC;obtain⟨hy,hz⟩:=ho;have hq:w.grownBy w3 (some b):=(hr.andThen (row':=some b) (⟨rfl,rfl,rfl,Zd _,fun _ _ _=>rfl⟩:W.grownBy W.drew (some b)) (fun j hj=>by cases hj;exact .inr rfl)).andThen (row':=some b) g3 (fun j hj=>by cases hj;exact .inr rfl)
   go_region
   go_wp2;go_roundw
   case rel=>exact⟨k+1,by omega,by go_num,hl,hq⟩
   case measure=>simp[intOf];omega
  ·obtain rfl:k=n:=by omega
   go_wp2;go_returns;refine⟨rfl,?_,hG⟩;rw[Zk (by rw[hc.out];exact Zd _)] at T2;exact T2
def Gx (k:Int)(vol file tt into:ByteArray)(at' fr ln:Int)(data:ByteArray):Value:=
 if k=1 then .iface 227 (.agg #[.string vol]) else if k=7 then .iface 237 (.agg #[.string vol]) else if k=8 then .iface 240 (.agg #[.string vol]) else if k=6 then .iface 235 (.agg #[.string vol,.string tt]) else if k=2 then .iface 245 (.agg #[.string vol,.string file,.int .i64 at',.string data]) else if k=3 then .iface 251 (.agg #[.string vol,.string file,.int .i64 ln]) else if k=4 then .iface 257 (.agg #[.string vol,.string file]) else if k=10 then .iface 254 (.agg #[.string vol,.string file,.int .i64 at',.int .i64 ln]) else if k=5 then .iface 248 (.agg #[.string tt,.string into,.int .i64 at',.string vol,.string file,.int .i64 fr,.int .i64 (fr+ln)]) else
 .iface 230 (.agg #[])
theorem jA_ (k:Int)(vol file tt into:ByteArray)(at' fr ln:Int)(data:ByteArray)(w:World)(hfl:k=5->0<=fr∧fr<=1000000000∧0<=ln∧ln<=1000000000):
  Calls prog 118 #[.agg #[.int .i64 k,.string vol,.string file,.string tt,.string into,.int .i64 at',.int .i64 fr,.int .i64 ln,.string data]] w fun e w'=>e=.returned (Gx k vol file tt into at' fr ln data)∧Below w.heap.size w w':=by
 by_cases h1:k=1
 ·subst h1;go_enter func118,ntmps118;go_wp2;go_returns;exact⟨rfl,by go_grown⟩
 by_cases h7:k=7
 ·subst h7;go_enter func118,ntmps118;go_wp2;go_returns;exact⟨rfl,by go_grown⟩
 by_cases h8:k=8
 ·subst h8;go_enter func118,ntmps118;go_wp2;go_returns;exact⟨rfl,by go_grown⟩
 by_cases h6:k=6
 ·subst h6;go_enter func118,ntmps118;go_wp2;go_returns;exact⟨rfl,by go_grown⟩
 by_cases h2:k=2
 ·subst h2;go_enter func118,ntmps118;go_wp2;go_returns;exact⟨rfl,by go_grown⟩
 by_cases h3:k=3
 ·subst h3;go_enter func118,ntmps118;go_wp2;go_returns;exact⟨rfl,by go_grown⟩
 by_cases h4:k=4
 ·subst h4;go_enter func118,ntmps118;go_wp2;go_returns;exact⟨rfl,by go_grown⟩
 by_cases h10:k=10
 ·subst h10;go_enter func118,ntmps118;go_wp2;go_returns;exact⟨rfl,by go_grown⟩
 by_cases h5:k=5
 ·subst h5;obtain⟨q1,q2,q3,q4⟩:=hfl rfl;go_enter func118,ntmps118;go_wp2;go_returns;exact⟨rfl,by go_grown⟩
 have hE:Gx k vol file tt into at' fr ln data=.iface 230 (.agg #[]):=by unfold Gx;simp only[h1,h7,h8,h6,h2,h3,h4,h10,h5,if_false]
 rw[hE];clear hE;go_enter func118,ntmps118;go_wp2;go_returns;exact⟨rfl,by go_grown⟩
theorem e1_ (x0:Value)(w:World):(method 479 227 (.agg #[x0]) "loop.example/g00336/impl.volume").run prog w=.ok (281,.agg #[]) w:=by kernel_rfl
theorem ew_ (x0:Value)(w:World):(method 479 227 (.agg #[x0]) "loop.example/g00336/impl.changes").run prog w=.ok (280,.agg #[]) w:=by kernel_rfl
theorem e2_ (x0:Value)(w:World):(method 479 237 (.agg #[x0]) "loop.example/g00336/impl.volume").run prog w=.ok (283,.agg #[x0]) w:=by kernel_rfl
theorem ex_ (x0:Value)(w:World):(method 479 237 (.agg #[x0]) "loop.example/g00336/impl.changes").run prog w=.ok (282,.agg #[x0]) w:=by kernel_rfl
theorem fz_ (x0:Value)(w:World):(method 479 240 (.agg #[x0]) "loop.example/g00336/impl.volume").run prog w=.ok (283,.agg #[x0]) w:=by kernel_rfl
theorem e3_ (x0:Value)(w:World):(method 479 240 (.agg #[x0]) "loop.example/g00336/impl.changes").run prog w=.ok (282,.agg #[x0]) w:=by kernel_rfl
theorem e4_ (x0 x1:Value)(w:World):(method 479 235 (.agg #[x0,x1]) "loop.example/g00336/impl.volume").run prog w=.ok (283,.agg #[x0]) w:=by kernel_rfl
theorem ey_ (x0 x1:Value)(w:World):(method 479 235 (.agg #[x0,x1]) "loop.example/g00336/impl.changes").run prog w=.ok (282,.agg #[x0]) w:=by kernel_rfl
theorem ez_ (x0 x1 x2 x3:Value)(w:World):(method 479 245 (.agg #[x0,x1,x2,x3]) "loop.example/g00336/impl.volume").run prog w=.ok (285,.agg #[x0,x1]) w:=by kernel_rfl
theorem d6_ (x0 x1 x2 x3:Value)(w:World):(method 479 245 (.agg #[x0,x1,x2,x3]) "loop.example/g00336/impl.changes").run prog w=.ok (284,.agg #[x0,x1]) w:=by kernel_rfl
theorem fA_ (x0 x1 x2:Value)(w:World):(method 479 251 (.agg #[x0,x1,x2]) "loop.example/g00336/impl.volume").run prog w=.ok (285,.agg #[x0,x1]) w:=by kernel_rfl
theorem e5_ (x0 x1 x2:Value)(w:World):(method 479 251 (.agg #[x0,x1,x2]) "loop.example/g00336/impl.changes").run prog w=.ok (284,.agg #[x0,x1]) w:=by kernel_rfl
theorem d7_ (x0 x1:Value)(w:World):(method 479 257 (.agg #[x0,x1]) "loop.example/g00336/impl.volume").run prog w=.ok (285,.agg #[x0,x1]) w:=by kernel_rfl
theorem dH_ (x0 x1:Value)(w:World):(method 479 257 (.agg #[x0,x1]) "loop.example/g00336/impl.changes").run prog w=.ok (284,.agg #[x0,x1]) w:=by kernel_rfl
theorem eA_ (x0 x1 x2 x3:Value)(w:World):(method 479 254 (.agg #[x0,x1,x2,x3]) "loop.example/g00336/impl.volume").run prog w=.ok (285,.agg #[x0,x1]) w:=by kernel_rfl
theorem d8_ (x0 x1 x2 x3:Value)(w:World):(method 479 254 (.agg #[x0,x1,x2,x3]) "loop.example/g00336/impl.changes").run prog w=.ok (284,.agg #[x0,x1]) w:=by kernel_rfl
theorem e6_ (x0 x1 x2 x3 x4 x5 x6:Value)(w:World):(method 479 248 (.agg #[x0,x1,x2,x3,x4,x5,x6]) "loop.example/g00336/impl.volume").run prog w=.ok (285,.agg #[x0,x1]) w:=by kernel_rfl
theorem eB_ (x0 x1 x2 x3 x4 x5 x6:Value)(w:World):(method 479 248 (.agg #[x0,x1,x2,x3,x4,x5,x6]) "loop.example/g00336/impl.changes").run prog w=.ok (284,.agg #[x0,x1]) w:=by kernel_rfl
theorem eC_ (w:World):(method 479 230 (.agg #[]) "loop.example/g00336/impl.volume").run prog w=.ok (281,.agg #[]) w:=by kernel_rfl
theorem d9_ (w:World):(method 479 230 (.agg #[]) "loop.example/g00336/impl.changes").run prog w=.ok (280,.agg #[]) w:=by kernel_rfl
theorem df_ (x:Value)(w:World):(callFunc 281 #[x]).run prog w=.ok (.enter 281 #[x]) w:=by kernel_rfl
theorem bG_ (w:World):Calls prog 281 #[.agg #[]] w fun e w'=>e=.returned (.string .empty)∧Below w.heap.size w w':=by
 go_enter func281,ntmps281;go_wp2;go_returns;exact⟨rfl,by go_grown⟩
theorem cN_ (x:Value)(w:World):(callFunc 280 #[x]).run prog w=.ok (.enter 280 #[x]) w:=by kernel_rfl
theorem cO_ (w:World):Calls prog 280 #[.agg #[]] w fun e w'=>e=.returned (.bool false)∧Below w.heap.size w w':=by
 go_enter func280,ntmps280;go_wp2;go_returns;exact⟨rfl,by go_grown⟩
theorem bQ_ (x:Value)(w:World):(callFunc 283 #[x]).run prog w=.ok (.enter 283 #[x]) w:=by kernel_rfl
theorem aP_ (s0:ByteArray)(w:World):Calls prog 283 #[.agg #[.string s0]] w fun e w'=>e=.returned (.string s0)∧Below w.heap.size w w':=by
 go_enter func283,ntmps283;go_wp2;go_returns;exact⟨rfl,by go_grown⟩
theorem bJ_ (x:Value)(w:World):(callFunc 282 #[x]).run prog w=.ok (.enter 282 #[x]) w:=by kernel_rfl
theorem bK_ (s0:ByteArray)(w:World):Calls prog 282 #[.agg #[.string s0]] w fun e w'=>e=.returned (.bool false)∧Below w.heap.size w w':=by
 go_enter func282,ntmps282;go_wp2;go_returns;exact⟨rfl,by go_grown⟩
theorem bj_ (x:Value)(w:World):(callFunc 285 #[x]).run prog w=.ok (.enter 285 #[x]) w:=by kernel_rfl
theorem aD_ (s0 s1:ByteArray)(w:World):Calls prog 285 #[.agg #[.string s0,.string s1]] w fun e w'=>e=.returned (.string s0)∧Below w.heap.size w w':=by
 go_enter func285,ntmps285;go_wp2;go_returns;exact⟨rfl,by go_grown⟩
theorem bc_ (x:Value)(w:World):(callFunc 284 #[x]).run prog w=.ok (.enter 284 #[x]) w:=by kernel_rfl
theorem bd_ (s0 s1:ByteArray)(w:World):Calls prog 284 #[.agg #[.string s0,.string s1]] w fun e w'=>e=.returned (.bool true)∧Below w.heap.size w w':=by
 go_enter func284,ntmps284;go_wp2;go_returns;exact⟨rfl,by go_grown⟩
def Oth (w:World)(bs:List Nat)(t:TypeId):Prop:=∀ k∈bs,∃ c t',Blk w k c t'∧t'≠t
theorem Ae.frlT {cs:α->List Value}{sz:Nat}{cap:Nat}{a:Option Addr}(h:Ae cs sz t w B a n cap l)(hf:FrL bs w w')(ho:Oth w bs t):Ae cs sz t w' B a n cap l:=by
 refine h.frl hf (fun ad e hm=>?_);obtain⟨c',t',ha,hb⟩:=ho _ hm;rcases h.own with⟨h0,_⟩ | ⟨b,h1,_,_,_,c,h5,_⟩
 ·rw[h0] at e;cases e
 ·rw[h1] at e
  cases e
  exact bD_ ha h5 hb
theorem Blk.frlT {c:Array Value}(h:Blk w b c t)(hf:FrL bs w w')(ho:Oth w bs t):Blk w' b c t:=h.frl hf (fun hm=>by
 obtain⟨c',t',ha,hb⟩:=ho _ hm;exact bD_ ha h hb)
theorem BY.frlT {r:IR}{y:It}(h:BY B w r y)(hf:FrL bs w w')(ho:Oth w bs 201):BY B w' r y:=⟨h.nm,h.ps.frlT hf ho⟩
theorem Bd.frl (h:Bd B w r y)(hf:FrL bs w w')(ho:Oth w bs 201)(hb:∀ ad,r.pa=some ad->ad.block∉bs):Bd B w' r y:=by
 obtain⟨e1,e2,e3,rs,R,T⟩:=h;exact⟨e1,e2,e3,rs,R.frl hf hb,T.len,fun i r y h1 h2=>(T.at' i r y h1 h2).frlT hf ho⟩
def PoB (B pb:Nat)(w:World)(p:Po):Prop:=∃ ea en ec va vn vc ra rn rc la ln lc rows,Blk w pb #[.int .i64 p.size,.int .i64 p.next,.slice ea en ec,.slice va vn vc,.slice ra rn rc,.slice la ln lc] 35∧Ae Ex.cs 2 76 w B ea en ec p.ex∧Ae vrs 4 62 w B va vn vc rows∧Ay B w rows p.vs∧Ae Ct.cs 4 80 w B ra rn rc p.rf∧Ae Ct.cs 4 80 w B la ln lc p.lt∧(∀ x y,ra=some x->la=some y->0<rc->0<lc->x.block≠y.block)∧CC rows∧NP w rows
theorem FrL.low (h:FrL bs w w')(hb:∀ k∈bs,B<=k)(hB:B<=w.heap.size):Below B w w':=
 ⟨h.os,h.tape,h.output,h.size,fun k hk=>h.block k (by omega) (fun hm=>by have:=hb k hm;omega)⟩
theorem eU_ (F:Foc B vb vn vc i rows r y w)(h1:(62:TypeId)≠t)(h2:(125:TypeId)≠t):Oth w (vb::AU r.pa) t:=by
 intro k hk;rcases Zn.1 hk with rfl | hk
 ·obtain⟨c,hc⟩:=F.rv.blkAt;exact⟨c,_,hc,h1⟩
 ·obtain⟨x,ha,hb⟩:=aO_.1 hk;obtain⟨rs,R,_⟩:=F.v.its;rcases R.own with⟨h0,_⟩ | ⟨b,e,_,_,_,c,hc,_⟩
  ·rw[h0] at ha;cases ha
  ·rw[e] at ha
   cases ha
   simp only at hb;subst hb;exact⟨c,_,hc,h2⟩
theorem lZ_ (F:Foc B vb vn vc i rows r y w):∀ k∈vb::AU r.pa,B<=k:=by
 intro k hk;rcases Zn.1 hk with rfl | hk
 ·exact (F.rv.block _ rfl).1
 ·obtain⟨x,ha,hb⟩:=aO_.1 hk;obtain⟨rs,R,_⟩:=F.v.its
  have:=(R.block x ha).1
  omega
theorem hX_ {y':Vo}(F:Foc B vb vn vc i rows r y w)(T:Ay B w rows vs)(hsep:CC rows)(hf:FrL bs w w')(hb:∀ k∈bs,k∈vb::AU r.pa∨∃ c,Blk w k c 35)(hV:Bd B w' r' y'):Ay B w' (rows.set i r') (vs.set i y'):=by
 have he:=(Zb.1 F.hi).1
 have ho:Oth w bs 201:=fun k hk=>by
  rcases hb k hk with h | ⟨c,h⟩
  ·exact eU_ F (by decide) (by decide) k h
  ·exact⟨c,_,h,by decide⟩
 refine⟨by simp[T.len],fun j q z h1 h2=>?_⟩;by_cases hij:i=j
 ·subst hij;rw[Zx he] at h1;rw[Zx (by rw[<-T.len];exact he)] at h2
  cases h1
  cases h2
  exact hV
 ·rw[ZJ hij] at h1 h2;refine (T.at' j q z h1 h2).frl hf ho (fun ad e hm=>?_);obtain⟨rs,R,_⟩:=(T.at' j q z h1 h2).its
  have hq:∃ c,Blk w ad.block c 125:=by
   rcases R.own with⟨h0,_⟩ | ⟨b,e',_,_,_,c,hc,_⟩
   ·rw[h0] at e;cases e
   ·rw[e'] at e;cases e;exact⟨c,hc⟩
  obtain⟨cq,ha⟩:=hq;rcases hb _ hm with h | ⟨c,h⟩
  ·rcases Zn.1 h with h | h
   ·obtain⟨c,hc⟩:=F.rv.blkAt;rw[h] at ha;exact bD_ hc ha (by decide)
   ·obtain⟨x,hg,hh⟩:=aO_.1 h;exact hsep i j r q x ad hij F.hi h1 hg e hh
  ·exact bD_ h ha (by decide)
theorem pK_ {j:Nat}{q:VR}{z:Vo}(F:Foc B vb vn vc i rows r y w)(hsep:CC rows)(hb:∀ k∈bs,k∈vb::AU r.pa∨∃ c,Blk w k c 35)(hij:i≠j)(h1:rows[j]?=some q)(V:Bd B w q z):∀ ad,q.pa=some ad->ad.block∉bs:=by
 intro ad e hm;obtain⟨rs,R,_⟩:=V.its
 have hq:∃ c,Blk w ad.block c 125:=by
  rcases R.own with⟨h0,_⟩ | ⟨b,e',_,_,_,c,hc,_⟩
  ·rw[h0] at e;cases e
  ·rw[e'] at e;cases e;exact⟨c,hc⟩
 obtain⟨cq,ha⟩:=hq;rcases hb _ hm with h | ⟨c,h⟩
 ·rcases Zn.1 h with h | h
  ·obtain⟨c,hc⟩:=F.rv.blkAt;rw[h] at ha;exact bD_ hc ha (by decide)
  ·obtain⟨x,he,hf⟩:=aO_.1 h;exact hsep i j r q x ad hij F.hi h1 he e hf
 ·exact bD_ h ha (by decide)
theorem kM_ (h:x∈l.take i):∃ j,j<i∧l[j]?=some x:=by
 obtain⟨j,hj,e⟩:=YS h;rw[Zz] at hj;rw[List.getElem_take] at e;exact⟨j,by omega,by rw[<-e];simp[show j<l.length by omega]⟩
theorem kN_ (h:x∈l.drop i):∃ j,i<=j∧l[j]?=some x:=by
 obtain⟨j,hj,e⟩:=YS h;rw[List.length_drop] at hj;rw[List.getElem_drop] at e;exact⟨i+j,by omega,by rw[<-e];simp[show i+j<l.length by omega]⟩
theorem f1_:CC rows↔rows.Pairwise (fun r s=>∀ x y,r.pa=some x->s.pa=some y->x.block≠y.block):=by
 rw[Yb];constructor
 ·intro h i j hi hj hb x y hx hy;exact h i j _ _ x y (by omega) (by simp[hi]) (by simp[hj]) hx hy
 ·intro h i j r s x y hb h1 h2 hx hy;obtain⟨hi,rfl⟩:=Zb.1 h1;obtain⟨hj,rfl⟩:=Zb.1 h2;rcases Nat.lt_or_gt_of_ne hb with ha | ha
  ·exact h i j hi hj ha x y hx hy
  ·exact fun e=>h j i hj hi ha y x hy hx e.symm
theorem CC.sub {l:List VR}(h:CC rows)(hs:l.Sublist rows):CC l:=f1_.2 ((f1_.1 h).sublist hs)
theorem CC.snoc (h:CC rows)(hn:∀ q∈rows,∀ x y,q.pa=some x->r.pa=some y->x.block≠y.block):CC (rows++[r]):=by
 rw[f1_,List.pairwise_append];exact⟨f1_.1 h,List.pairwise_singleton _ _,fun q hq s hs=>by simp only[YP] at hs;subst hs;exact hn q hq⟩
theorem l0_ (F:Foc B vb vn vc i rows r y w)(T:Ay B w rows vs)(hsep:CC rows)(N:NP w rows)(hf:FrL bs w w')(hbs:∀ k∈bs,k∈vb::AU r.pa∨∃ c,Blk w k c 35)(hM:FJ w r w' r'):CC (rows.set i r')∧NP w' (rows.set i r'):=by
 have hh:=(Zb.1 F.hi).1
 have hk:∀ (j:Nat) (q:VR),i≠j->rows[j]?=some q->pbk w' q=pbk w q:=fun j q hg h1=>by
  obtain⟨z,V⟩:=T.of_mem (Zc h1);exact fP_ V (fun rs R=>(R.frl hf (pK_ F hsep hbs hg h1 V)).sl)
 have hl:∀ (j:Nat) (q:VR) (x:Addr),rows[j]?=some q->q.pa=some x->x.block<w.heap.size:=fun j q x h1 hx=>by
  obtain⟨z,V⟩:=T.of_mem (Zc h1);obtain⟨rs,R,_⟩:=V.its;exact (R.block x hx).2
 have hb:∀ (j:Nat) (q:VR) (x x':Addr),i≠j->rows[j]?=some q->q.pa=some x->r'.pa=some x'->x'.block≠x.block:=fun j q x x' hg h1 hx hc=>by
  rcases hM.1 x' hc with h | h
  ·obtain⟨x0,e0,e1⟩:=aO_.1 h;rw[<-e1];exact hsep i j r q x0 x hg F.hi h1 e0 hx
  ·have:=hl j q x h1 hx
   omega
 refine⟨fun a b q s x x' he h1 h2 hx hc=>?_,?_⟩
 ·by_cases hia:i=a
  ·subst hia;rw[Zx hh] at h1
   cases h1
   rw[ZJ he] at h2;exact hb b s x' x he h2 hc hx
  ·rw[ZJ hia] at h1;by_cases hib:i=b
   ·subst hib;rw[Zx hh] at h2
    cases h2
    exact fun e=>hb a q x x' hia h1 hx hc e.symm
   ·rw[ZJ hib] at h2;exact hsep a b q s x x' he h1 h2 hx hc
 ·unfold NP at N ⊢;have ha:=mD_ T;rw[ob_ F.hi] at N ha;rw[iK_ hh,bW_ (f:=pbk w') (g:=pbk w) (l:=rows.take i) (fun q hq=>by obtain⟨j,hj,h1⟩:=kM_ hq;exact hk j q (by omega) h1),bW_ (f:=pbk w') (g:=pbk w) (l:=rows.drop (i+1)) (fun q hq=>by obtain⟨j,hj,h1⟩:=kN_ hq;exact hk j q (by omega) h1)];obtain⟨rs,R,_⟩:=F.v.its;have hm:=hM.2 rs R.sl;rw[<-cv_ R.sl] at hm;exact nh_ N ha hm
structure Own (B pb:Nat)(w:World)(p:Po)(ea:Option Addr)(en ec:Nat)(va:Option Addr)(vn vc:Nat)(ra:Option Addr)(rn rc:Nat)(la:Option Addr)(ln' lc:Nat)(rows:List VR):Prop where
 P:Blk w pb #[.int .i64 p.size,.int .i64 p.next,.slice ea en ec,.slice va vn vc,.slice ra rn rc,.slice la ln' lc] 35
 RE:Ae Ex.cs 2 76 w B ea en ec p.ex
 RV:Ae vrs 4 62 w B va vn vc rows
 T:Ay B w rows p.vs
 RR:Ae Ct.cs 4 80 w B ra rn rc p.rf
 RL:Ae Ct.cs 4 80 w B la ln' lc p.lt
 sep:∀ x y,ra=some x->la=some y->0<rc->0<lc->x.block≠y.block
 sepV:CC rows
 np:NP w rows
theorem Own.below {va:Option Addr}(h:Own B pb w p ea en ec va vn vc ra rn rc la ln' lc rows)(hb:Below w.heap.size w w'):Own B pb w' p ea en ec va vn vc ra rn rc la ln' lc rows:=⟨h.P.below hb,h.RE.below hb,h.RV.below hb,h.T.below hb,h.RR.below hb,h.RL.below hb,h.sep,h.sepV,dc_ h.T h.np hb⟩
structure Rgt (p:Po):Prop where
 vn:p.vs.length<=4000000
 str:DS p.vs
 nd:(p.vs.map (·.nm.toList)).Nodup
 its:∀ v∈p.vs,E6 v.its∧v.its.length<=4000000
def Cz (S:Addr->Prop)(B pb:Nat)(w:World)(e:Ending)(w':World):Int⊕Po->Prop
 |.inl c=>(∃ a,S a∧e=.returned (BL c a))∧Below B w w'
 |.inr p=>e=.returned .nilIface∧PoB B pb w' p∧Below B w w'
def AH (p:Po)(s:ByteArray)(chg:Bool)(f:Nat->Vo->Int⊕Po):Int⊕Po:=match volI p.vs s with
 |none=>.inl 3
 |some i=>match p.vs[i]? with
  |none=>.inl 3
  |some y=>if (chg&&y.fx)=true then .inl 6 else f i y
def B7 (p:Po)(i:Nat)(y:Vo):Int⊕List It->Int⊕Po
 |.inl c=>.inl c
 |.inr its=>.inr {p with vs:=p.vs.set i {y with its:=its}}
theorem Own.foc (h:Own B pb w p ea en ec (some ⟨vb,0,none⟩) vn vc ra rn rc la ln' lc rows)(hr:Rgt p)(hy:p.vs[i]?=some y):∃ r,rows[i]?=some r∧Foc B vb vn vc i rows r y w:=by
 have hi:=(Zb.1 hy).1;have hm:=Zc hy;obtain⟨r,hq⟩:∃ r,rows[i]?=some r:=⟨rows[i]'(by rw[h.T.len];exact hi),by simp⟩;obtain⟨h1,h2⟩:=hr.its y hm;exact⟨r,hq,h.RV,hq,h.T.at' i r y hq hy,h1,h2,(hr.str y hm).2.2⟩
theorem Own.endV {S:Addr->Prop}{w0:World}(h:Own B pb w p ea en ec (some ⟨vb,0,none⟩) vn vc ra rn rc la ln' lc rows)(F:Foc B vb vn vc i rows r y w)(hb:Below w0.heap.size w0 w)(hB:B<=w0.heap.size){e:Ending}{R:Int⊕List It}(hret:Gp S B vb vn vc i rows r y w e w' R):Cz S B pb w0 e w' (B7 p i y R):=by
 have hz:=hb.size
 cases R with
 |inl c=>exact⟨hret.1,(Aa hb hret.2).mono hB⟩
 |inr its=>
  obtain⟨he,r',h1,h2,h3,h4⟩:=hret;have hT:=hX_ F h.T h.sepV h3 (fun k hk=>.inl hk) h2;have hN:=l0_ F h.T h.sepV h.np h3 (fun k hk=>.inl hk) h4;exact⟨he,⟨ea,en,ec,_,vn,vc,ra,rn,rc,la,ln',lc,_,h.P.frlT h3 (eU_ F (by decide) (by decide)),h.RE.frlT h3 (eU_ F (by decide) (by decide)),h1,hT,h.RR.frlT h3 (eU_ F (by decide) (by decide)),h.RL.frlT h3 (eU_ F (by decide) (by decide)),h.sep,hN⟩,(hb.mono hB).trans (h3.low (lZ_ F) (by omega))⟩
end
section
open Go Go.RowKit Go.BigFrame Tryz
variable{w:World}
theorem dI_ (v:Value)(w:World):(Instr.typeAssert (.iface 227 v) 163 227 true).run prog w=.ok (.tuple #[v,.bool true]) w:=by kernel_rfl
theorem dg_ (v:Value)(w:World):(Instr.typeAssert (.iface 230 v) 163 227 true).run prog w=.ok (.tuple #[.agg #[.string .empty],.bool false]) w:=by kernel_rfl
theorem cV_ (v:Value)(w:World):(Instr.typeAssert (.iface 230 v) 163 230 true).run prog w=.ok (.tuple #[v,.bool true]) w:=by kernel_rfl
theorem dJ_ (v:Value)(w:World):(Instr.typeAssert (.iface 235 v) 163 227 true).run prog w=.ok (.tuple #[.agg #[.string .empty],.bool false]) w:=by kernel_rfl
theorem dh_ (v:Value)(w:World):(Instr.typeAssert (.iface 235 v) 163 230 true).run prog w=.ok (.tuple #[.agg #[],.bool false]) w:=by kernel_rfl
theorem dK_ (v:Value)(w:World):(Instr.typeAssert (.iface 235 v) 163 235 true).run prog w=.ok (.tuple #[v,.bool true]) w:=by kernel_rfl
theorem dL_ (v:Value)(w:World):(Instr.typeAssert (.iface 237 v) 163 227 true).run prog w=.ok (.tuple #[.agg #[.string .empty],.bool false]) w:=by kernel_rfl
theorem di_ (v:Value)(w:World):(Instr.typeAssert (.iface 237 v) 163 230 true).run prog w=.ok (.tuple #[.agg #[],.bool false]) w:=by kernel_rfl
theorem dM_ (v:Value)(w:World):(Instr.typeAssert (.iface 237 v) 163 235 true).run prog w=.ok (.tuple #[.agg #[.string .empty,.string .empty],.bool false]) w:=by kernel_rfl
theorem dN_ (v:Value)(w:World):(Instr.typeAssert (.iface 237 v) 163 237 true).run prog w=.ok (.tuple #[v,.bool true]) w:=by kernel_rfl
theorem ea_ (v:Value)(w:World):(Instr.typeAssert (.iface 240 v) 163 227 true).run prog w=.ok (.tuple #[.agg #[.string .empty],.bool false]) w:=by kernel_rfl
theorem dO_ (v:Value)(w:World):(Instr.typeAssert (.iface 240 v) 163 230 true).run prog w=.ok (.tuple #[.agg #[],.bool false]) w:=by kernel_rfl
theorem eb_ (v:Value)(w:World):(Instr.typeAssert (.iface 240 v) 163 235 true).run prog w=.ok (.tuple #[.agg #[.string .empty,.string .empty],.bool false]) w:=by kernel_rfl
theorem ec_ (v:Value)(w:World):(Instr.typeAssert (.iface 240 v) 163 237 true).run prog w=.ok (.tuple #[.agg #[.string .empty],.bool false]) w:=by kernel_rfl
theorem eD_ (v:Value)(w:World):(Instr.typeAssert (.iface 240 v) 163 240 true).run prog w=.ok (.tuple #[v,.bool true]) w:=by kernel_rfl
theorem dj_ (v:Value)(w:World):(Instr.typeAssert (.iface 245 v) 163 227 true).run prog w=.ok (.tuple #[.agg #[.string .empty],.bool false]) w:=by kernel_rfl
theorem cW_ (v:Value)(w:World):(Instr.typeAssert (.iface 245 v) 163 230 true).run prog w=.ok (.tuple #[.agg #[],.bool false]) w:=by kernel_rfl
theorem dk_ (v:Value)(w:World):(Instr.typeAssert (.iface 245 v) 163 235 true).run prog w=.ok (.tuple #[.agg #[.string .empty,.string .empty],.bool false]) w:=by kernel_rfl
theorem dl_ (v:Value)(w:World):(Instr.typeAssert (.iface 245 v) 163 237 true).run prog w=.ok (.tuple #[.agg #[.string .empty],.bool false]) w:=by kernel_rfl
theorem dP_ (v:Value)(w:World):(Instr.typeAssert (.iface 245 v) 163 240 true).run prog w=.ok (.tuple #[.agg #[.string .empty],.bool false]) w:=by kernel_rfl
theorem cX_ (v:Value)(w:World):(Instr.typeAssert (.iface 245 v) 163 245 true).run prog w=.ok (.tuple #[v,.bool true]) w:=by kernel_rfl
theorem dQ_ (v:Value)(w:World):(Instr.typeAssert (.iface 248 v) 163 227 true).run prog w=.ok (.tuple #[.agg #[.string .empty],.bool false]) w:=by kernel_rfl
theorem dm_ (v:Value)(w:World):(Instr.typeAssert (.iface 248 v) 163 230 true).run prog w=.ok (.tuple #[.agg #[],.bool false]) w:=by kernel_rfl
theorem dR_ (v:Value)(w:World):(Instr.typeAssert (.iface 248 v) 163 235 true).run prog w=.ok (.tuple #[.agg #[.string .empty,.string .empty],.bool false]) w:=by kernel_rfl
theorem dS_ (v:Value)(w:World):(Instr.typeAssert (.iface 248 v) 163 237 true).run prog w=.ok (.tuple #[.agg #[.string .empty],.bool false]) w:=by kernel_rfl
theorem ed_ (v:Value)(w:World):(Instr.typeAssert (.iface 248 v) 163 240 true).run prog w=.ok (.tuple #[.agg #[.string .empty],.bool false]) w:=by kernel_rfl
theorem dn_ (v:Value)(w:World):(Instr.typeAssert (.iface 248 v) 163 245 true).run prog w=.ok (.tuple #[.agg #[.string .empty,.string .empty,.int .i64 0,.string .empty],.bool false]) w:=by kernel_rfl
theorem dT_ (v:Value)(w:World):(Instr.typeAssert (.iface 248 v) 163 248 true).run prog w=.ok (.tuple #[v,.bool true]) w:=by kernel_rfl
theorem ee_ (v:Value)(w:World):(Instr.typeAssert (.iface 251 v) 163 227 true).run prog w=.ok (.tuple #[.agg #[.string .empty],.bool false]) w:=by kernel_rfl
theorem dU_ (v:Value)(w:World):(Instr.typeAssert (.iface 251 v) 163 230 true).run prog w=.ok (.tuple #[.agg #[],.bool false]) w:=by kernel_rfl
theorem ef_ (v:Value)(w:World):(Instr.typeAssert (.iface 251 v) 163 235 true).run prog w=.ok (.tuple #[.agg #[.string .empty,.string .empty],.bool false]) w:=by kernel_rfl
theorem eg_ (v:Value)(w:World):(Instr.typeAssert (.iface 251 v) 163 237 true).run prog w=.ok (.tuple #[.agg #[.string .empty],.bool false]) w:=by kernel_rfl
theorem eE_ (v:Value)(w:World):(Instr.typeAssert (.iface 251 v) 163 240 true).run prog w=.ok (.tuple #[.agg #[.string .empty],.bool false]) w:=by kernel_rfl
theorem dV_ (v:Value)(w:World):(Instr.typeAssert (.iface 251 v) 163 245 true).run prog w=.ok (.tuple #[.agg #[.string .empty,.string .empty,.int .i64 0,.string .empty],.bool false]) w:=by kernel_rfl
theorem eh_ (v:Value)(w:World):(Instr.typeAssert (.iface 251 v) 163 248 true).run prog w=.ok (.tuple #[.agg #[.string .empty,.string .empty,.int .i64 0,.string .empty,.string .empty,.int .i64 0,.int .i64 0],.bool false]) w:=by kernel_rfl
theorem eF_ (v:Value)(w:World):(Instr.typeAssert (.iface 251 v) 163 251 true).run prog w=.ok (.tuple #[v,.bool true]) w:=by kernel_rfl
theorem do_ (v:Value)(w:World):(Instr.typeAssert (.iface 254 v) 163 227 true).run prog w=.ok (.tuple #[.agg #[.string .empty],.bool false]) w:=by kernel_rfl
theorem cY_ (v:Value)(w:World):(Instr.typeAssert (.iface 254 v) 163 230 true).run prog w=.ok (.tuple #[.agg #[],.bool false]) w:=by kernel_rfl
theorem dp_ (v:Value)(w:World):(Instr.typeAssert (.iface 254 v) 163 235 true).run prog w=.ok (.tuple #[.agg #[.string .empty,.string .empty],.bool false]) w:=by kernel_rfl
theorem dq_ (v:Value)(w:World):(Instr.typeAssert (.iface 254 v) 163 237 true).run prog w=.ok (.tuple #[.agg #[.string .empty],.bool false]) w:=by kernel_rfl
theorem dW_ (v:Value)(w:World):(Instr.typeAssert (.iface 254 v) 163 240 true).run prog w=.ok (.tuple #[.agg #[.string .empty],.bool false]) w:=by kernel_rfl
theorem cZ_ (v:Value)(w:World):(Instr.typeAssert (.iface 254 v) 163 245 true).run prog w=.ok (.tuple #[.agg #[.string .empty,.string .empty,.int .i64 0,.string .empty],.bool false]) w:=by kernel_rfl
theorem dr_ (v:Value)(w:World):(Instr.typeAssert (.iface 254 v) 163 248 true).run prog w=.ok (.tuple #[.agg #[.string .empty,.string .empty,.int .i64 0,.string .empty,.string .empty,.int .i64 0,.int .i64 0],.bool false]) w:=by kernel_rfl
theorem dX_ (v:Value)(w:World):(Instr.typeAssert (.iface 254 v) 163 251 true).run prog w=.ok (.tuple #[.agg #[.string .empty,.string .empty,.int .i64 0],.bool false]) w:=by kernel_rfl
theorem c0_ (v:Value)(w:World):(Instr.typeAssert (.iface 254 v) 163 254 true).run prog w=.ok (.tuple #[v,.bool true]) w:=by kernel_rfl
theorem c1_ (v:Value)(w:World):(Instr.typeAssert (.iface 257 v) 163 227 true).run prog w=.ok (.tuple #[.agg #[.string .empty],.bool false]) w:=by kernel_rfl
theorem cC_ (v:Value)(w:World):(Instr.typeAssert (.iface 257 v) 163 230 true).run prog w=.ok (.tuple #[.agg #[],.bool false]) w:=by kernel_rfl
theorem c2_ (v:Value)(w:World):(Instr.typeAssert (.iface 257 v) 163 235 true).run prog w=.ok (.tuple #[.agg #[.string .empty,.string .empty],.bool false]) w:=by kernel_rfl
theorem c3_ (v:Value)(w:World):(Instr.typeAssert (.iface 257 v) 163 237 true).run prog w=.ok (.tuple #[.agg #[.string .empty],.bool false]) w:=by kernel_rfl
theorem ds_ (v:Value)(w:World):(Instr.typeAssert (.iface 257 v) 163 240 true).run prog w=.ok (.tuple #[.agg #[.string .empty],.bool false]) w:=by kernel_rfl
theorem cD_ (v:Value)(w:World):(Instr.typeAssert (.iface 257 v) 163 245 true).run prog w=.ok (.tuple #[.agg #[.string .empty,.string .empty,.int .i64 0,.string .empty],.bool false]) w:=by kernel_rfl
theorem c4_ (v:Value)(w:World):(Instr.typeAssert (.iface 257 v) 163 248 true).run prog w=.ok (.tuple #[.agg #[.string .empty,.string .empty,.int .i64 0,.string .empty,.string .empty,.int .i64 0,.int .i64 0],.bool false]) w:=by kernel_rfl
theorem dt_ (v:Value)(w:World):(Instr.typeAssert (.iface 257 v) 163 251 true).run prog w=.ok (.tuple #[.agg #[.string .empty,.string .empty,.int .i64 0],.bool false]) w:=by kernel_rfl
theorem cE_ (v:Value)(w:World):(Instr.typeAssert (.iface 257 v) 163 254 true).run prog w=.ok (.tuple #[.agg #[.string .empty,.string .empty,.int .i64 0,.int .i64 0],.bool false]) w:=by kernel_rfl
theorem cz_ (v:Value)(w:World):(Instr.typeAssert (.iface 257 v) 163 257 true).run prog w=.ok (.tuple #[v,.bool true]) w:=by kernel_rfl
end
end Go.Proofs.YtahenegmbmnmjaaGreatDoor
