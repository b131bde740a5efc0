/- A volume looked up by its name; a piece of one file copied into another. -/
import Derived.Test.YtbbhcnjhohidnaaGreatDoorV20
set_option maxHeartbeats 20000000
set_option maxRecDepth 100000
namespace Go.Proofs.YtbbhcnjhohidnaaGreatDoor
section
open Go Go.RowKit Go.BigFrame Tryz
variable{α:Type}{bs:List Nat}{rows:List VR}{vs:List Vo}{B b ec en i lc ln' n pb rc rn vb vc vn:Nat}{ea la ra:Option Addr}{p:Po}{t:TypeId}{r r':VR}{y:Vo}{w w':World}{l:List α}{x:α}
theorem lY_ (B:Nat)(pb:Nat)(size next:Int)(ea:Option Addr)(en ec:Nat)(vv:Value)(ra:Option Addr)(rn rc:Nat)(la:Option Addr)(ln lc:Nat)(ex:List Ex)(rf lt F:List Ct)(w:World)(hBw:B<=w.heap.size)(hF:(flushedO rf lt).getD []=F)(P:Blk w pb #[.int .i64 size,.int .i64 next,.slice ea en ec,vv,.slice ra rn rc,.slice la ln lc] 35)(RE:ResAt Ex.cs 2 103 w B ea en ec ex)(RR:CtsAt w ra rn rf)(RL:CtsAt w la ln lt)(hs1:StrC rf)(hs2:StrC lt)(hrn:rn<=4194304)(hln:ln<=4194304)(hen:en<=4194304)(hFl:F.length<=200)(hFw:∀ c∈F,(Lit.int .i64 c.o.a).wf=true)(hxw:∀ x∈ex,(Lit.int .i64 x.a).wf=true):
  Calls prog 120 #[.pointer (some ⟨pb,0,none⟩)] w fun e w'=>e=.returned (.tuple #[])∧∃ ea' en' ec' ra' rn' rc',Blk w' pb #[.int .i64 size,.int .i64 next,.slice ea' en' ec',vv,.slice ra' rn' rc',.slice none 0 0] 35∧ResAt Ex.cs 2 103 w' B ea' en' ec' (ex.filter (fun e=>F.any (fun c=>c.o.a==e.a)))∧ResAt Ct.cs 4 107 w' B ra' rn' rc' F∧FrL (pb::blkOf ea) w w':=by
 have hZ:=@run_makeMap prog;have hW:Below w.heap.size w w.drew:=(Below.refl _ _).drew;obtain⟨p0,p1,p2,p3,p4,p5⟩:=P.six';go_enter func120,ntmps120
 go_wp2_with fail
 have hV:(fun u=>u.cell? ⟨pb,5,none⟩=some (.slice la ln lc)) w.drew:=p5;refine aC_ (S:=(fun u=>u.cell? ⟨pb,5,none⟩=some (.slice la ln lc))) 16 (by kernel_rfl) rfl ?_;have q4:w.drew.cell? ⟨pb,4,none⟩=some (.slice ra rn rc):=p4;refine tk 0 ?_;refine tk 1 ?_;refine tk 2 ?_;refine tk 3 ?_;refine tk 5 ?_;refine tk 6 ?_;refine tk 7 ?_;refine tk 8 ?_;refine oneL (i:=4) (by kernel_rfl) rfl (fun K hK=>?_);go_simp;refine hK.out _ _ p5 (fun hHeld=>?_);clear hK K
 try simp only[Act.put,lsA,lsB,lsC]
 refine oneL (i:=9) (by kernel_rfl) rfl (fun K hK=>?_);go_simp;refine (fX_ ra rn rc rf la ln lc lt w.drew (RR.below hW) (RL.below hW) hs1 hs2 hrn hln).mono ?_;rintro e w1 ⟨ha,hc⟩;replace hc:Below w.heap.size w w1:=chain hW hc
 obtain⟨fa,fn,fc,bk,rfl,h7,RF⟩:∃ fa fn fc bk,e=.returned (.tuple #[.slice fa fn fc,.bool bk])∧fn<=200∧ResAt Ct.cs 4 107 w1 w.drew.heap.size fa fn fc F:=by
  cases hN:flushedO rf lt with
  |none=>
   rw[hN] at ha hF;have hw:F=[]:=hF.symm;subst hw;exact⟨none,0,0,false,ha,by omega,aB_⟩
  |some L=>
   rw[hN] at ha hF;have hw:F=L:=hF.symm;subst hw;obtain⟨fa,fn,fc,he,h1,h2⟩:=ha;exact⟨fa,fn,fc,true,he,h1,h2⟩
 clear ha hF;have h4:w.drew.heap.size=w.heap.size:=rfl;replace P:=P.below hc;replace RE:=RE.below hc;have h8:=hc.size;clear p0 p1 p2 p3 p4 p5;dsimp only;obtain⟨p0,p1,p2,p3,p4,p5⟩:=P.six';have f4:=P.frozen 4;refine hK.out _ _ p5 (fun hHeld=>?_);clear hK K
 try simp only[Act.put,lsA,lsB,lsC]
 refine tk 10 ?_;refine tk 11 ?_;refine tk 12 ?_;refine tk 13 ?_;refine tk 14 ?_;refine oneL (i:=15) (by kernel_rfl) rfl (fun K hK=>?_);go_simp;have hl:w1.grownBy (w1.setCell ⟨pb,4,none⟩ (.slice fa fn fc)) (some pb):=af_ (World.grownBy.refl _ _) _ _;have P2:=P.set 4 (.slice fa fn fc);simp only[List.setIfInBounds_toArray,List.set_cons_zero,List.set_cons_succ] at P2;have hQ:=RE.ty hl (aa_ P) (by decide);have hP:=(RF.ty hl (aa_ P) (by decide)).mono (show B<=w.drew.heap.size by omega);have hO:=(FrL.of_below (bs:=pb::blkOf ea) hc).new (FrL.of_grown (bs:=[pb]) hl (fun k e=>.inl (by cases e;simp))) (fun k hk=>.inl (by simp at hk;subst hk;simp));have h5:w1.heap.size<=(w1.setCell ⟨pb,4,none⟩ (.slice fa fn fc)).heap.size:=hl.size;refine hK.out _ _ (P2.cell 5) (fun hHeld=>?_);clear hK K
 try simp only[Act.put,lsA,lsB,lsC]
 generalize w1.setCell ⟨pb,4,none⟩ (.slice fa fn fc)=w2 at *;refine wpAnyH_done (by kernel_rfl) ?_ _;clear hHeld hV RR RL p0 p1 p2 p3 p4 p5 f4 hl P RE RF q4 hc;obtain⟨p0,p1,p2,p3,p4,p5⟩:=P2.six';have f5:=P2.frozen 5;have P3:=P2.set 5 (.slice none 0 0);simp only[List.setIfInBounds_toArray,List.set_cons_zero,List.set_cons_succ] at P3;have r4:(((w2.setCell ⟨pb,5,none⟩ (.slice none 0 0)).alloc (.map #[] 0)).alloc (.cells #[.map (some w2.heap.size)] 240)).cell? ⟨pb,4,none⟩=some (.slice fa fn fc):=((P3.alloc _).alloc _).cell 4;clear P3
 go_wp2_with fail
 have hn:w2.grownBy (w2.setCell ⟨pb,5,none⟩ (.slice none 0 0)) (some pb):=af_ (World.grownBy.refl _ _) _ _;have P3:=P2.set 5 (.slice none 0 0);simp only[List.setIfInBounds_toArray,List.set_cons_zero,List.set_cons_succ] at P3;have hs:=hQ.ty hn (aa_ P2) (by decide);have ho:=hP.ty hn (aa_ P2) (by decide);have hE:=hO.new (FrL.of_grown (bs:=[pb]) hn (fun k e=>.inl (by cases e;simp))) (fun k hk=>.inl (by simp at hk;subst hk;simp));have hq:w2.heap.size=(w2.setCell ⟨pb,5,none⟩ (.slice none 0 0)).heap.size:=by simp
 have hM:=AdAt.made (w2.setCell ⟨pb,5,none⟩ (.slice none 0 0));rw[<-hq] at hM;have hv:Below w2.heap.size (w2.setCell ⟨pb,5,none⟩ (.slice none 0 0)) (((w2.setCell ⟨pb,5,none⟩ (.slice none 0 0)).alloc (.map #[] 0)).alloc (.cells #[.map (some w2.heap.size)] 240)):=by rw[hq];exact ((Below.refl _ _).alloc (Zd _) _).alloc (by simp) _
 have hD:AdAt (((w2.setCell ⟨pb,5,none⟩ (.slice none 0 0)).alloc (.map #[] 0)).alloc (.cells #[.map (some w2.heap.size)] 240)) w2.heap.size 0 []:=hM.below ((Below.refl _ _).alloc (Zd _) _);have N3:Blk (((w2.setCell ⟨pb,5,none⟩ (.slice none 0 0)).alloc (.map #[] 0)).alloc (.cells #[.map (some w2.heap.size)] 240)) (w2.heap.size+1) #[.map (some w2.heap.size)] 240:=Blk.new' _ _ _ _ (by simp);clear hM hn hQ hP hO P2 p0 p1 p2 p3 p4 p5 f5;generalize (((w2.setCell ⟨pb,5,none⟩ (.slice none 0 0)).alloc (.map #[] 0)).alloc (.cells #[.map (some w2.heap.size)] 240))=W4 at *;generalize w2.setCell ⟨pb,5,none⟩ (.slice none 0 0)=w3 at *;rw[hq] at hv;have hY:w2.heap.size<=w3.heap.size:=by omega
 have hR:w3.heap.size<=w2.heap.size:=by omega
 clear hq hZ hHeld r4 hs1 hs2;have nF:Hid (F.length=fn):=ho.sl.len
 go_loopw [29] (fun ix wr=>∃ (k:Nat),k<=fn∧ix=.int .i64 k∧AdAt wr w2.heap.size k (F.take k)∧Blk wr (w2.heap.size+1) #[.map (some w2.heap.size)] 240∧Below w3.heap.size w3 wr) (fun ix _=>fn-(intOf ix).toNat)
 case atStart=>exact⟨0,Zg _,rfl,hD,N3,hv⟩
 case round=>
  clear hD N3 hv;obtain⟨k,hk,rfl,A,N,hB⟩:=hrel;have hS:=hB.size;by_cases hlt:k<fn
  ·obtain⟨b,o,p,rfl,hp,c0,c1,c2,c3⟩:=aN_ (ho.sl.below hB) hlt;have hJ:=hFw p (Zc hp);have qb:(k:Int)<fn:=by omega
   have qa:(0:Int)<=k:=by omega
   have h9:(F.take k).length<=200:=by rw[Zz];omega
   have hL:Hid (F.take k++[p]=F.take (k+1)):=(bx_ hp).symm;have hT:=fY_ p.o.a (F.take k);have gW:wr.grownBy (wr.alloc (.cells #[.int .i64 p.o.a,.int .i64 p.o.v,.string p.o.f,.int .i64 p.n] 107)) (some w2.heap.size):=World.grownBy_alloc wr _ _;have A1:AdAt (wr.alloc (.cells #[.int .i64 p.o.a,.int .i64 p.o.v,.string p.o.f,.int .i64 p.n] 107)) w2.heap.size k (F.take k):=A.kept (World.grownBy_alloc wr _ none) (by simp);have z0:(wr.alloc (.cells #[.int .i64 p.o.a,.int .i64 p.o.v,.string p.o.f,.int .i64 p.n] 107)).cell? ⟨wr.heap.size,0,none⟩=some (.int .i64 p.o.a):=by simp
   have z1:(wr.alloc (.cells #[.int .i64 p.o.a,.int .i64 p.o.v,.string p.o.f,.int .i64 p.n] 107)).cell? ⟨w2.heap.size+1,0,none⟩=some (.map (some w2.heap.size)):=(N.alloc _).cell 0;have r1:=A1.look hJ;obtain⟨w5,r2,A2,g2⟩:=A1.bump (by unfold maxLen;omega) (by omega) hJ;have g3:wr.grownBy w5 (some w2.heap.size):=gW.andThen g2 (fun j hj=>by cases hj;exact .inr rfl);have hX:Below w3.heap.size w3 w5:=hB.grown g3 hB.size (fun j hj=>by cases hj;omega);have N5:Blk w5 (w2.heap.size+1) #[.map (some w2.heap.size)] 240:=(g3.block _ N.lt (by simp)).trans N;rw[hL.out] at A2;clear hp A A1 hL N gW g2 g3 hS;generalize cntZ p.o.a (F.take k)=Z at *;obtain⟨h3,h6⟩:=hT;go_wp2;go_roundw
   case rel=>exact⟨k+1,by omega,by go_num,A2,N5,hX⟩
   case measure=>simp[intOf];omega
  ·obtain rfl:k=fn:=by omega
   rw[Zk (Zm nF.out)] at A;have P4:=P3.below hB;have hh:=hs.below hB;have hy:=ho.below hB;have hI:=hE.new (FrL.of_below (bs:=[]) hB) (fun k hk=>by simp at hk);have n0:wr.cell? ⟨w2.heap.size+1,0,none⟩=some (.map (some w2.heap.size)):=N.cell 0;have hC:NamI (w2.heap.size+1) w2.heap.size F wr:=⟨n0,_,A⟩;have hH:∀ u u',NamI (w2.heap.size+1) w2.heap.size F u->Below u.heap.size u u'->NamI (w2.heap.size+1) w2.heap.size F u':=fun u u' h hb=>⟨bcell hb h.1,h.2.elim (fun n h=>⟨n,h.below hb⟩)⟩;have hU:∀ ad,ea=some ad->ad.block<w3.heap.size:=fun ad e=>(hs.block ad e).2;clear P3 hs ho hE A n0 N;obtain⟨p0,p1,p2,p3,p4,p5⟩:=P4.six';rcases hh.own with⟨rfl,rfl,rfl⟩ | ⟨eb,rfl,_⟩
   ·obtain rfl:ex=[]:=Zt hh.sl.len
    go_wp2_with fail
    refine (gY_ (NamI (w2.heap.size+1) w2.heap.size F) _ _ (gM_ (w2.heap.size+1) w2.heap.size F [] hxw) hH wr hC).mono ?_;rintro e w6 ⟨rfl,hz⟩;replace P4:=P4.below hz;have hr:=hy.below hz;have f2:=P4.frozen 2;clear p0 p1 p2 p3 p4 p5;obtain⟨p0,p1,p2,p3,p4,p5⟩:=P4.six';go_wp2;go_returns;have hf:w6.grownBy (w6.setCell ⟨pb,2,none⟩ (.slice none 0 0)) (some pb):=af_ (World.grownBy.refl _ _) _ _;have P7:=P4.set 2 (.slice none 0 0);simp only[List.setIfInBounds_toArray,List.set_cons_zero,List.set_cons_succ] at P7;exact⟨rfl,none,0,0,fa,k,fc,P7,aB_,hr.ty hf (aa_ P4) (by decide),(hI.new (FrL.of_below (bs:=[]) hz) (fun k hk=>by simp at hk)).new (FrL.of_grown (bs:=[pb]) hf (fun k e=>.inl (by cases e;simp))) (fun k hk=>.inl (by simp at hk;subst hk;simp))⟩
   ·have hA:=hU _ rfl;simp only at hA;have hu:¬ (w2.heap.size+1=eb):=by omega
    have hx:¬ (w2.heap.size=eb):=by omega
    go_wp2_with fail
    refine (hW_ ex (NamI (w2.heap.size+1) w2.heap.size F) _ _ (gM_ (w2.heap.size+1) w2.heap.size F ex hxw) hH B eb en ec (fun u u' h hg=>⟨hg.cell h.1 (by simpa using hu),h.2.elim (fun n h=>⟨n,h.kept hg (by simpa using hx)⟩)⟩) wr hh hC hen).mono ?_;rintro e w6 ⟨m,rfl,hG,hm⟩;obtain⟨cc,ht⟩:=hh.blkAt;have P6:=P4.ty hm (aa_ ht) (by decide);have hr:=hy.ty hm (aa_ ht) (by decide);have h0:=hI.new (FrL.of_grown (bs:=[eb]) hm (fun k e=>.inl (by cases e;simp))) (fun k hk=>.inl (by simp at hk;subst hk;simp[blkOf]));have f2:=P6.frozen 2;rw[lX_] at hG;clear p0 p1 p2 p3 p4 p5 ht hm P4 hy hh;obtain⟨p0,p1,p2,p3,p4,p5⟩:=P6.six';go_wp2;go_returns;have hf:w6.grownBy (w6.setCell ⟨pb,2,none⟩ (.slice (some ⟨eb,0,none⟩) m ec)) (some pb):=af_ (World.grownBy.refl _ _) _ _;have P7:=P6.set 2 (.slice (some ⟨eb,0,none⟩) m ec);simp only[List.setIfInBounds_toArray,List.set_cons_zero,List.set_cons_succ] at P7;exact⟨rfl,some ⟨eb,0,none⟩,m,ec,fa,k,fc,P7,hG.ty hf (aa_ P6) (by decide),hr.ty hf (aa_ P6) (by decide),h0.new (FrL.of_grown (bs:=[pb]) hf (fun k e=>.inl (by cases e;simp))) (fun k hk=>.inl (by simp at hk;subst hk;simp))⟩
theorem jz_ (b m:Nat)(f:Ow->Int)(a:Option Addr)(n cap:Nat)(l:List Ct)(w:World)(hT:TlAt w b m f)(h:CtsAt w a n l)(hw:WfC l)(hn:n<=1000000)(hm:m<=1000000)(hb:∀ x∈l,-1000000<=x.n∧x.n<=1000000)(hf:∀ o,-1000000000000<=f o∧f o<=1000000000000):
  Calls prog 73 #[.map (some b),.slice a n cap] w fun e w'=>e=.returned (.tuple #[])∧TlAt w' b (m+n) (fun o=>f o-tot o l)∧w.grownBy w' (some b):=by
 have hc:Hid (l.length=n):=h.len;go_enter func73,ntmps73
 go_wp2_with fail
 go_loopw [8] (fun ix wr=>∃ (k:Nat),k<=n∧ix=.int .i64 k∧TlAt wr b (m+k) (fun o=>f o-tot o (l.take k))∧w.grownBy wr (some b)) (fun ix _=>n-(intOf ix).toNat)
 case atStart=>exact⟨0,Zg _,rfl,hT.congr (fun o=>by simp[tot]),⟨rfl,rfl,rfl,Zd _,fun _ _ _=>rfl⟩⟩
 case round=>
  obtain⟨k,hk,rfl,T2,hG⟩:=hrel;by_cases hlt:k<n
  ·obtain⟨bb,oo,p,rfl,hp,c0,c1,c2,c3⟩:=aN_ h hlt;have ha:=hT.apart c0;have d0:=hG.cell c0 (by simpa using ha);have d1:=hG.cell c1 (by simpa using ha);have d2:=hG.cell c2 (by simpa using ha);have d3:=hG.cell c3 (by simpa using ha);have hq:=hw p (Zc hp);have ho:=hb p (Zc hp);have hg:=fh_ hp;have he:=eR_ (M:=1000000) (by omega) (l:=l.take k) (fun x hx=>hb x (ZX hx));clear c0 c1 c2 c3
   go_wp2_with fail
   have z0:(wr.alloc (.cells #[.int .i64 p.o.a,.int .i64 p.o.v,.string p.o.f,.int .i64 p.n] 107)).cell? ⟨wr.heap.size,0,none⟩=some (.int .i64 p.o.a):=by simp
   have z1:(wr.alloc (.cells #[.int .i64 p.o.a,.int .i64 p.o.v,.string p.o.f,.int .i64 p.n] 107)).cell? ⟨wr.heap.size,1,none⟩=some (.int .i64 p.o.v):=by simp
   have z2:(wr.alloc (.cells #[.int .i64 p.o.a,.int .i64 p.o.v,.string p.o.f,.int .i64 p.n] 107)).cell? ⟨wr.heap.size,2,none⟩=some (.string p.o.f):=by simp
   have z3:(wr.alloc (.cells #[.int .i64 p.o.a,.int .i64 p.o.v,.string p.o.f,.int .i64 p.n] 107)).cell? ⟨wr.heap.size,3,none⟩=some (.int .i64 p.n):=by simp
   have hs:w.grownBy (wr.alloc (.cells #[.int .i64 p.o.a,.int .i64 p.o.v,.string p.o.f,.int .i64 p.n] 107)) (some b):=hG.andThen (World.grownBy_alloc wr _ (some b)) (fun j hj=>by cases hj;exact .inr rfl);have T3:TlAt (wr.alloc (.cells #[.int .i64 p.o.a,.int .i64 p.o.v,.string p.o.f,.int .i64 p.n] 107)) b (m+k) (fun o=>f o-tot o (l.take k)):=T2.kept (World.grownBy_alloc wr _ none) (by simp);generalize wr.alloc (.cells #[.int .i64 p.o.a,.int .i64 p.o.v,.string p.o.f,.int .i64 p.n] 107)=W at *;have T4:TlAt W.drew b (m+k) (fun o=>f o-tot o (l.take k)):=T3;obtain⟨st,w1,e1,e2,e3,g1,e4⟩:=T4.entry (by unfold maxLen;omega) hq;have hu:((l.take k).length:Int)<=n:=by simp;omega
   have hC:-3000000000000<=f p.o-tot p.o (l.take k)∧f p.o-tot p.o (l.take k)<=3000000000000:=by
    have h1:=hf p.o;have h2:=he p.o;omega
   obtain⟨w3,e5,T5,g3⟩:=e4 (f p.o-tot p.o (l.take k)-p.n) (WalkArith.wf_i64 (by omega));clear e4 T4 T3 T2 d0 d1 d2 d3 he
   have hr:TlAt w3 b (m+(k+1)) (fun o=>f o-tot o (l.take (k+1))):=T5.congr (fun o=>by
    rw[hg o];split
    ·rename_i hh;rw[aM_.1 hh];omega
    ·omega)
   clear T5 hg;generalize f p.o-tot p.o (l.take k)=C at *;obtain⟨hy,hz⟩:=hC;obtain⟨hv,ht⟩:=ho;have hl:w.grownBy w3 (some b):=(hs.andThen (row':=some b) (⟨rfl,rfl,rfl,Zd _,fun _ _ _=>rfl⟩:W.grownBy W.drew (some b)) (fun j hj=>by cases hj;exact .inr rfl)).andThen (row':=some b) g3 (fun j hj=>by cases hj;exact .inr rfl)
   go_region
   go_wp2;go_roundw
   case rel=>exact⟨k+1,by omega,by go_num,hr,hl⟩
   case measure=>simp[intOf];omega
  ·obtain rfl:k=n:=by omega
   go_wp2;go_returns;refine⟨rfl,?_,hG⟩;rw[Zk (by rw[hc.out];exact Zd _)] at T2;exact T2
def ordV (k:Int)(vol file tt into:ByteArray)(at' fr ln:Int)(data:ByteArray):Value:=
 if k=1 then .iface 183 (.agg #[.string vol]) else if k=7 then .iface 193 (.agg #[.string vol]) else if k=8 then .iface 196 (.agg #[.string vol]) else if k=6 then .iface 191 (.agg #[.string vol,.string tt]) else if k=2 then .iface 201 (.agg #[.string vol,.string file,.int .i64 at',.string data]) else if k=3 then .iface 207 (.agg #[.string vol,.string file,.int .i64 ln]) else if k=4 then .iface 213 (.agg #[.string vol,.string file]) else if k=10 then .iface 210 (.agg #[.string vol,.string file,.int .i64 at',.int .i64 ln]) else if k=5 then .iface 204 (.agg #[.string tt,.string into,.int .i64 at',.string vol,.string file,.int .i64 fr,.int .i64 (fr+ln)]) else
 .iface 186 (.agg #[])
theorem jA_ (k:Int)(vol file tt into:ByteArray)(at' fr ln:Int)(data:ByteArray)(w:World)(hfl:k=5->0<=fr∧fr<=1000000000∧0<=ln∧ln<=1000000000):
  Calls prog 69 #[.agg #[.int .i64 k,.string vol,.string file,.string tt,.string into,.int .i64 at',.int .i64 fr,.int .i64 ln,.string data]] w fun e w'=>e=.returned (ordV k vol file tt into at' fr ln data)∧Below w.heap.size w w':=by
 by_cases h1:k=1
 ·subst h1;go_enter func69,ntmps69;go_wp2;go_returns;exact⟨rfl,by go_grown⟩
 by_cases h7:k=7
 ·subst h7;go_enter func69,ntmps69;go_wp2;go_returns;exact⟨rfl,by go_grown⟩
 by_cases h8:k=8
 ·subst h8;go_enter func69,ntmps69;go_wp2;go_returns;exact⟨rfl,by go_grown⟩
 by_cases h6:k=6
 ·subst h6;go_enter func69,ntmps69;go_wp2;go_returns;exact⟨rfl,by go_grown⟩
 by_cases h2:k=2
 ·subst h2;go_enter func69,ntmps69;go_wp2;go_returns;exact⟨rfl,by go_grown⟩
 by_cases h3:k=3
 ·subst h3;go_enter func69,ntmps69;go_wp2;go_returns;exact⟨rfl,by go_grown⟩
 by_cases h4:k=4
 ·subst h4;go_enter func69,ntmps69;go_wp2;go_returns;exact⟨rfl,by go_grown⟩
 by_cases h10:k=10
 ·subst h10;go_enter func69,ntmps69;go_wp2;go_returns;exact⟨rfl,by go_grown⟩
 by_cases h5:k=5
 ·subst h5;obtain⟨q1,q2,q3,q4⟩:=hfl rfl;go_enter func69,ntmps69;go_wp2;go_returns;exact⟨rfl,by go_grown⟩
 have hE:ordV k vol file tt into at' fr ln data=.iface 186 (.agg #[]):=by unfold ordV;simp only[h1,h7,h8,h6,h2,h3,h4,h10,h5,if_false]
 rw[hE];clear hE;go_enter func69,ntmps69;go_wp2;go_returns;exact⟨rfl,by go_grown⟩
theorem e1_ (x0:Value)(w:World):(method 447 183 (.agg #[x0]) "loop.example/g00336/impl.volume").run prog w=.ok (239,.agg #[]) w:=by kernel_rfl
theorem ew_ (x0:Value)(w:World):(method 447 183 (.agg #[x0]) "loop.example/g00336/impl.changes").run prog w=.ok (238,.agg #[]) w:=by kernel_rfl
theorem e2_ (x0:Value)(w:World):(method 447 193 (.agg #[x0]) "loop.example/g00336/impl.volume").run prog w=.ok (241,.agg #[x0]) w:=by kernel_rfl
theorem ex_ (x0:Value)(w:World):(method 447 193 (.agg #[x0]) "loop.example/g00336/impl.changes").run prog w=.ok (240,.agg #[x0]) w:=by kernel_rfl
theorem fz_ (x0:Value)(w:World):(method 447 196 (.agg #[x0]) "loop.example/g00336/impl.volume").run prog w=.ok (241,.agg #[x0]) w:=by kernel_rfl
theorem e3_ (x0:Value)(w:World):(method 447 196 (.agg #[x0]) "loop.example/g00336/impl.changes").run prog w=.ok (240,.agg #[x0]) w:=by kernel_rfl
theorem e4_ (x0 x1:Value)(w:World):(method 447 191 (.agg #[x0,x1]) "loop.example/g00336/impl.volume").run prog w=.ok (241,.agg #[x0]) w:=by kernel_rfl
theorem ey_ (x0 x1:Value)(w:World):(method 447 191 (.agg #[x0,x1]) "loop.example/g00336/impl.changes").run prog w=.ok (240,.agg #[x0]) w:=by kernel_rfl
theorem ez_ (x0 x1 x2 x3:Value)(w:World):(method 447 201 (.agg #[x0,x1,x2,x3]) "loop.example/g00336/impl.volume").run prog w=.ok (243,.agg #[x0,x1]) w:=by kernel_rfl
theorem d6_ (x0 x1 x2 x3:Value)(w:World):(method 447 201 (.agg #[x0,x1,x2,x3]) "loop.example/g00336/impl.changes").run prog w=.ok (242,.agg #[x0,x1]) w:=by kernel_rfl
theorem fA_ (x0 x1 x2:Value)(w:World):(method 447 207 (.agg #[x0,x1,x2]) "loop.example/g00336/impl.volume").run prog w=.ok (243,.agg #[x0,x1]) w:=by kernel_rfl
theorem e5_ (x0 x1 x2:Value)(w:World):(method 447 207 (.agg #[x0,x1,x2]) "loop.example/g00336/impl.changes").run prog w=.ok (242,.agg #[x0,x1]) w:=by kernel_rfl
theorem d7_ (x0 x1:Value)(w:World):(method 447 213 (.agg #[x0,x1]) "loop.example/g00336/impl.volume").run prog w=.ok (243,.agg #[x0,x1]) w:=by kernel_rfl
theorem dH_ (x0 x1:Value)(w:World):(method 447 213 (.agg #[x0,x1]) "loop.example/g00336/impl.changes").run prog w=.ok (242,.agg #[x0,x1]) w:=by kernel_rfl
theorem eA_ (x0 x1 x2 x3:Value)(w:World):(method 447 210 (.agg #[x0,x1,x2,x3]) "loop.example/g00336/impl.volume").run prog w=.ok (243,.agg #[x0,x1]) w:=by kernel_rfl
theorem d8_ (x0 x1 x2 x3:Value)(w:World):(method 447 210 (.agg #[x0,x1,x2,x3]) "loop.example/g00336/impl.changes").run prog w=.ok (242,.agg #[x0,x1]) w:=by kernel_rfl
theorem e6_ (x0 x1 x2 x3 x4 x5 x6:Value)(w:World):(method 447 204 (.agg #[x0,x1,x2,x3,x4,x5,x6]) "loop.example/g00336/impl.volume").run prog w=.ok (243,.agg #[x0,x1]) w:=by kernel_rfl
theorem eB_ (x0 x1 x2 x3 x4 x5 x6:Value)(w:World):(method 447 204 (.agg #[x0,x1,x2,x3,x4,x5,x6]) "loop.example/g00336/impl.changes").run prog w=.ok (242,.agg #[x0,x1]) w:=by kernel_rfl
theorem eC_ (w:World):(method 447 186 (.agg #[]) "loop.example/g00336/impl.volume").run prog w=.ok (239,.agg #[]) w:=by kernel_rfl
theorem d9_ (w:World):(method 447 186 (.agg #[]) "loop.example/g00336/impl.changes").run prog w=.ok (238,.agg #[]) w:=by kernel_rfl
theorem df_ (x:Value)(w:World):(callFunc 239 #[x]).run prog w=.ok (.enter 239 #[x]) w:=by kernel_rfl
theorem bG_ (w:World):Calls prog 239 #[.agg #[]] w fun e w'=>e=.returned (.string .empty)∧Below w.heap.size w w':=by
 go_enter func239,ntmps239;go_wp2;go_returns;exact⟨rfl,by go_grown⟩
theorem cN_ (x:Value)(w:World):(callFunc 238 #[x]).run prog w=.ok (.enter 238 #[x]) w:=by kernel_rfl
theorem cO_ (w:World):Calls prog 238 #[.agg #[]] w fun e w'=>e=.returned (.bool false)∧Below w.heap.size w w':=by
 go_enter func238,ntmps238;go_wp2;go_returns;exact⟨rfl,by go_grown⟩
theorem bQ_ (x:Value)(w:World):(callFunc 241 #[x]).run prog w=.ok (.enter 241 #[x]) w:=by kernel_rfl
theorem aP_ (s0:ByteArray)(w:World):Calls prog 241 #[.agg #[.string s0]] w fun e w'=>e=.returned (.string s0)∧Below w.heap.size w w':=by
 go_enter func241,ntmps241;go_wp2;go_returns;exact⟨rfl,by go_grown⟩
theorem bJ_ (x:Value)(w:World):(callFunc 240 #[x]).run prog w=.ok (.enter 240 #[x]) w:=by kernel_rfl
theorem bK_ (s0:ByteArray)(w:World):Calls prog 240 #[.agg #[.string s0]] w fun e w'=>e=.returned (.bool false)∧Below w.heap.size w w':=by
 go_enter func240,ntmps240;go_wp2;go_returns;exact⟨rfl,by go_grown⟩
theorem bj_ (x:Value)(w:World):(callFunc 243 #[x]).run prog w=.ok (.enter 243 #[x]) w:=by kernel_rfl
theorem aD_ (s0 s1:ByteArray)(w:World):Calls prog 243 #[.agg #[.string s0,.string s1]] w fun e w'=>e=.returned (.string s0)∧Below w.heap.size w w':=by
 go_enter func243,ntmps243;go_wp2;go_returns;exact⟨rfl,by go_grown⟩
theorem bc_ (x:Value)(w:World):(callFunc 242 #[x]).run prog w=.ok (.enter 242 #[x]) w:=by kernel_rfl
theorem bd_ (s0 s1:ByteArray)(w:World):Calls prog 242 #[.agg #[.string s0,.string s1]] w fun e w'=>e=.returned (.bool true)∧Below w.heap.size w w':=by
 go_enter func242,ntmps242;go_wp2;go_returns;exact⟨rfl,by go_grown⟩
def Oth (w:World)(bs:List Nat)(t:TypeId):Prop:=∀ k∈bs,∃ c t',Blk w k c t'∧t'≠t
theorem ResAt.frlT {cs:α->List Value}{sz:Nat}{cap:Nat}{a:Option Addr}(h:ResAt cs sz t w B a n cap l)(hf:FrL bs w w')(ho:Oth w bs t):ResAt cs sz t w' B a n cap l:=by
 refine h.frl hf (fun ad e hm=>?_);obtain⟨c',t',hb,ha⟩:=ho _ hm;rcases h.own with⟨h0,_⟩ | ⟨b,h1,_,_,_,c,h5,_⟩
 ·rw[h0] at e;cases e
 ·rw[h1] at e
  cases e
  exact bD_ hb h5 ha
theorem Blk.frlT {c:Array Value}(h:Blk w b c t)(hf:FrL bs w w')(ho:Oth w bs t):Blk w' b c t:=h.frl hf (fun hm=>by
 obtain⟨c',t',hb,ha⟩:=ho _ hm;exact bD_ hb h ha)
theorem RowT.frlT {r:IR}{y:It}(h:RowT B w r y)(hf:FrL bs w w')(ho:Oth w bs 162):RowT B w' r y:=⟨h.nm,h.ps.frlT hf ho⟩
theorem VolT.frl (h:VolT B w r y)(hf:FrL bs w w')(ho:Oth w bs 162)(hb:∀ ad,r.pa=some ad->ad.block∉bs):VolT B w' r y:=by
 obtain⟨e1,e2,e3,rs,R,T⟩:=h;exact⟨e1,e2,e3,rs,R.frl hf hb,T.len,fun i r y h1 h2=>(T.at' i r y h1 h2).frlT hf ho⟩
def PoB (B pb:Nat)(w:World)(p:Po):Prop:=∃ ea en ec va vn vc ra rn rc la ln lc rows,Blk w pb #[.int .i64 p.size,.int .i64 p.next,.slice ea en ec,.slice va vn vc,.slice ra rn rc,.slice la ln lc] 35∧ResAt Ex.cs 2 103 w B ea en ec p.ex∧ResAt vrs 4 97 w B va vn vc rows∧VolsT B w rows p.vs∧ResAt Ct.cs 4 107 w B ra rn rc p.rf∧ResAt Ct.cs 4 107 w B la ln lc p.lt∧(∀ x y,ra=some x->la=some y->0<rc->0<lc->x.block≠y.block)∧SepV rows∧NP w rows
theorem FrL.low (h:FrL bs w w')(hb:∀ k∈bs,B<=k)(hB:B<=w.heap.size):Below B w w':=
 ⟨h.os,h.tape,h.output,h.size,fun k hk=>h.block k (by omega) (fun hm=>by have:=hb k hm;omega)⟩
theorem eU_ (F:Foc B vb vn vc i rows r y w)(h1:(97:TypeId)≠t)(h2:(156:TypeId)≠t):Oth w (vb::blkOf r.pa) t:=by
 intro k hk;rcases Zn.1 hk with rfl | hk
 ·obtain⟨c,hc⟩:=F.rv.blkAt;exact⟨c,_,hc,h1⟩
 ·obtain⟨x,ha,hb⟩:=aO_.1 hk;obtain⟨rs,R,_⟩:=F.v.its;rcases R.own with⟨h0,_⟩ | ⟨b,e,_,_,_,c,hc,_⟩
  ·rw[h0] at ha;cases ha
  ·rw[e] at ha
   cases ha
   simp only at hb;subst hb;exact⟨c,_,hc,h2⟩
theorem lZ_ (F:Foc B vb vn vc i rows r y w):∀ k∈vb::blkOf r.pa,B<=k:=by
 intro k hk;rcases Zn.1 hk with rfl | hk
 ·exact (F.rv.block _ rfl).1
 ·obtain⟨x,ha,hb⟩:=aO_.1 hk;obtain⟨rs,R,_⟩:=F.v.its
  have:=(R.block x ha).1
  omega
theorem hX_ {y':Vo}(F:Foc B vb vn vc i rows r y w)(T:VolsT B w rows vs)(hsep:SepV rows)(hf:FrL bs w w')(hb:∀ k∈bs,k∈vb::blkOf r.pa∨∃ c,Blk w k c 35)(hV:VolT B w' r' y'):VolsT B w' (rows.set i r') (vs.set i y'):=by
 have he:=(Zb.1 F.hi).1
 have ho:Oth w bs 162:=fun k hk=>by
  rcases hb k hk with h | ⟨c,h⟩
  ·exact eU_ F (by decide) (by decide) k h
  ·exact⟨c,_,h,by decide⟩
 refine⟨by simp[T.len],fun j q z h1 h2=>?_⟩;by_cases hij:i=j
 ·subst hij;rw[Zx he] at h1;rw[Zx (by rw[<-T.len];exact he)] at h2
  cases h1
  cases h2
  exact hV
 ·rw[ZJ hij] at h1 h2;refine (T.at' j q z h1 h2).frl hf ho (fun ad e hm=>?_);obtain⟨rs,R,_⟩:=(T.at' j q z h1 h2).its
  have hq:∃ c,Blk w ad.block c 156:=by
   rcases R.own with⟨h0,_⟩ | ⟨b,e',_,_,_,c,hc,_⟩
   ·rw[h0] at e;cases e
   ·rw[e'] at e;cases e;exact⟨c,hc⟩
  obtain⟨cq,ha⟩:=hq;rcases hb _ hm with h | ⟨c,h⟩
  ·rcases Zn.1 h with h | h
   ·obtain⟨c,hc⟩:=F.rv.blkAt;rw[h] at ha;exact bD_ hc ha (by decide)
   ·obtain⟨x,hg,hh⟩:=aO_.1 h;exact hsep i j r q x ad hij F.hi h1 hg e hh
  ·exact bD_ h ha (by decide)
theorem pK_ {j:Nat}{q:VR}{z:Vo}(F:Foc B vb vn vc i rows r y w)(hsep:SepV rows)(he:∀ k∈bs,k∈vb::blkOf r.pa∨∃ c,Blk w k c 35)(hij:i≠j)(h1:rows[j]?=some q)(V:VolT B w q z):∀ ad,q.pa=some ad->ad.block∉bs:=by
 intro ad e hm;obtain⟨rs,R,_⟩:=V.its
 have hq:∃ c,Blk w ad.block c 156:=by
  rcases R.own with⟨h0,_⟩ | ⟨b,e',_,_,_,c,hc,_⟩
  ·rw[h0] at e;cases e
  ·rw[e'] at e;cases e;exact⟨c,hc⟩
 obtain⟨cq,ha⟩:=hq;rcases he _ hm with h | ⟨c,h⟩
 ·rcases Zn.1 h with h | h
  ·obtain⟨c,hc⟩:=F.rv.blkAt;rw[h] at ha;exact bD_ hc ha (by decide)
  ·obtain⟨x,hb,hf⟩:=aO_.1 h;exact hsep i j r q x ad hij F.hi h1 hb e hf
 ·exact bD_ h ha (by decide)
theorem kM_ (h:x∈l.take i):∃ j,j<i∧l[j]?=some x:=by
 obtain⟨j,hj,e⟩:=List.getElem_of_mem h;rw[Zz] at hj;rw[List.getElem_take] at e;exact⟨j,by omega,by rw[<-e];simp[show j<l.length by omega]⟩
theorem kN_ (h:x∈l.drop i):∃ j,i<=j∧l[j]?=some x:=by
 obtain⟨j,hj,e⟩:=List.getElem_of_mem h;rw[List.length_drop] at hj;rw[List.getElem_drop] at e;exact⟨i+j,by omega,by rw[<-e];simp[show i+j<l.length by omega]⟩
theorem f1_:SepV rows↔rows.Pairwise (fun r s=>∀ x y,r.pa=some x->s.pa=some y->x.block≠y.block):=by
 rw[Yb];constructor
 ·intro h i j hi hj hb x y hx hy;exact h i j _ _ x y (by omega) (by simp[hi]) (by simp[hj]) hx hy
 ·intro h i j r s x y hb h1 h2 hx hy;obtain⟨hi,rfl⟩:=Zb.1 h1;obtain⟨hj,rfl⟩:=Zb.1 h2;rcases Nat.lt_or_gt_of_ne hb with ha | ha
  ·exact h i j hi hj ha x y hx hy
  ·exact fun e=>h j i hj hi ha y x hy hx e.symm
theorem SepV.sub {l:List VR}(h:SepV rows)(hs:l.Sublist rows):SepV l:=f1_.2 ((f1_.1 h).sublist hs)
theorem SepV.snoc (h:SepV rows)(hn:∀ q∈rows,∀ x y,q.pa=some x->r.pa=some y->x.block≠y.block):SepV (rows++[r]):=by
 rw[f1_,List.pairwise_append];exact⟨f1_.1 h,List.pairwise_singleton _ _,fun q hq s hs=>by simp only[List.mem_singleton] at hs;subst hs;exact hn q hq⟩
theorem l0_ (F:Foc B vb vn vc i rows r y w)(T:VolsT B w rows vs)(hsep:SepV rows)(N:NP w rows)(hf:FrL bs w w')(hbs:∀ k∈bs,k∈vb::blkOf r.pa∨∃ c,Blk w k c 35)(hM:MovV w r w' r'):SepV (rows.set i r')∧NP w' (rows.set i r'):=by
 have hh:=(Zb.1 F.hi).1
 have hk:∀ (j:Nat) (q:VR),i≠j->rows[j]?=some q->pbk w' q=pbk w q:=fun j q he h1=>by
  obtain⟨z,V⟩:=T.of_mem (Zc h1);exact fP_ V (fun rs R=>(R.frl hf (pK_ F hsep hbs he h1 V)).sl)
 have hl:∀ (j:Nat) (q:VR) (x:Addr),rows[j]?=some q->q.pa=some x->x.block<w.heap.size:=fun j q x h1 hx=>by
  obtain⟨z,V⟩:=T.of_mem (Zc h1);obtain⟨rs,R,_⟩:=V.its;exact (R.block x hx).2
 have ha:∀ (j:Nat) (q:VR) (x x':Addr),i≠j->rows[j]?=some q->q.pa=some x->r'.pa=some x'->x'.block≠x.block:=fun j q x x' he h1 hx hc=>by
  rcases hM.1 x' hc with h | h
  ·obtain⟨x0,e0,e1⟩:=aO_.1 h;rw[<-e1];exact hsep i j r q x0 x he F.hi h1 e0 hx
  ·have:=hl j q x h1 hx
   omega
 refine⟨fun a b q s x x' hg h1 h2 hx hc=>?_,?_⟩
 ·by_cases hia:i=a
  ·subst hia;rw[Zx hh] at h1
   cases h1
   rw[ZJ hg] at h2;exact ha b s x' x hg h2 hc hx
  ·rw[ZJ hia] at h1;by_cases hib:i=b
   ·subst hib;rw[Zx hh] at h2
    cases h2
    exact fun e=>ha a q x x' hia h1 hx hc e.symm
   ·rw[ZJ hib] at h2;exact hsep a b q s x x' hg h1 h2 hx hc
 ·unfold NP at N ⊢;have hb:=mD_ T;rw[ob_ F.hi] at N hb;rw[iK_ hh,bW_ (f:=pbk w') (g:=pbk w) (l:=rows.take i) (fun q hq=>by obtain⟨j,hj,h1⟩:=kM_ hq;exact hk j q (by omega) h1),bW_ (f:=pbk w') (g:=pbk w) (l:=rows.drop (i+1)) (fun q hq=>by obtain⟨j,hj,h1⟩:=kN_ hq;exact hk j q (by omega) h1)];obtain⟨rs,R,_⟩:=F.v.its;have hm:=hM.2 rs R.sl;rw[<-cv_ R.sl] at hm;exact nh_ N hb hm
structure Own (B pb:Nat)(w:World)(p:Po)(ea:Option Addr)(en ec:Nat)(va:Option Addr)(vn vc:Nat)(ra:Option Addr)(rn rc:Nat)(la:Option Addr)(ln' lc:Nat)(rows:List VR):Prop where
 P:Blk w pb #[.int .i64 p.size,.int .i64 p.next,.slice ea en ec,.slice va vn vc,.slice ra rn rc,.slice la ln' lc] 35
 RE:ResAt Ex.cs 2 103 w B ea en ec p.ex
 RV:ResAt vrs 4 97 w B va vn vc rows
 T:VolsT B w rows p.vs
 RR:ResAt Ct.cs 4 107 w B ra rn rc p.rf
 RL:ResAt Ct.cs 4 107 w B la ln' lc p.lt
 sep:∀ x y,ra=some x->la=some y->0<rc->0<lc->x.block≠y.block
 sepV:SepV rows
 np:NP w rows
theorem Own.below {va:Option Addr}(h:Own B pb w p ea en ec va vn vc ra rn rc la ln' lc rows)(hb:Below w.heap.size w w'):Own B pb w' p ea en ec va vn vc ra rn rc la ln' lc rows:=⟨h.P.below hb,h.RE.below hb,h.RV.below hb,h.T.below hb,h.RR.below hb,h.RL.below hb,h.sep,h.sepV,dc_ h.T h.np hb⟩
structure Rgt (p:Po):Prop where
 vn:p.vs.length<=4000000
 str:StrV p.vs
 nd:(p.vs.map (·.nm.toList)).Nodup
 its:∀ v∈p.vs,RisI v.its∧v.its.length<=4000000
def RetC (S:Addr->Prop)(B pb:Nat)(w:World)(e:Ending)(w':World):Int⊕Po->Prop
 |.inl c=>(∃ a,S a∧e=.returned (refV c a))∧Below B w w'
 |.inr p=>e=.returned .nilIface∧PoB B pb w' p∧Below B w w'
def onVol (p:Po)(s:ByteArray)(chg:Bool)(f:Nat->Vo->Int⊕Po):Int⊕Po:=match volI p.vs s with
 |none=>.inl 3
 |some i=>match p.vs[i]? with
  |none=>.inl 3
  |some y=>if (chg&&y.fx)=true then .inl 6 else f i y
def setV (p:Po)(i:Nat)(y:Vo):Int⊕List It->Int⊕Po
 |.inl c=>.inl c
 |.inr its=>.inr {p with vs:=p.vs.set i {y with its:=its}}
theorem Own.foc (h:Own B pb w p ea en ec (some ⟨vb,0,none⟩) vn vc ra rn rc la ln' lc rows)(hr:Rgt p)(hy:p.vs[i]?=some y):∃ r,rows[i]?=some r∧Foc B vb vn vc i rows r y w:=by
 have hi:=(Zb.1 hy).1;have hm:=Zc hy;obtain⟨r,hq⟩:∃ r,rows[i]?=some r:=⟨rows[i]'(by rw[h.T.len];exact hi),by simp⟩;obtain⟨h1,h2⟩:=hr.its y hm;exact⟨r,hq,h.RV,hq,h.T.at' i r y hq hy,h1,h2,(hr.str y hm).2.2⟩
theorem Own.endV {S:Addr->Prop}{w0:World}(h:Own B pb w p ea en ec (some ⟨vb,0,none⟩) vn vc ra rn rc la ln' lc rows)(F:Foc B vb vn vc i rows r y w)(hb:Below w0.heap.size w0 w)(hB:B<=w0.heap.size){e:Ending}{R:Int⊕List It}(hret:RetV S B vb vn vc i rows r y w e w' R):RetC S B pb w0 e w' (setV p i y R):=by
 have hz:=hb.size
 cases R with
 |inl c=>exact⟨hret.1,(chain hb hret.2).mono hB⟩
 |inr its=>
  obtain⟨he,r',h1,h2,h3,h4⟩:=hret;have hT:=hX_ F h.T h.sepV h3 (fun k hk=>.inl hk) h2;have hN:=l0_ F h.T h.sepV h.np h3 (fun k hk=>.inl hk) h4;exact⟨he,⟨ea,en,ec,_,vn,vc,ra,rn,rc,la,ln',lc,_,h.P.frlT h3 (eU_ F (by decide) (by decide)),h.RE.frlT h3 (eU_ F (by decide) (by decide)),h1,hT,h.RR.frlT h3 (eU_ F (by decide) (by decide)),h.RL.frlT h3 (eU_ F (by decide) (by decide)),h.sep,hN⟩,(hb.mono hB).trans (h3.low (lZ_ F) (by omega))⟩
end
section
open Go Go.RowKit Go.BigFrame Tryz
variable{w:World}
theorem dI_ (v:Value)(w:World):(Instr.typeAssert (.iface 183 v) 116 183 true).run prog w=.ok (.tuple #[v,.bool true]) w:=by kernel_rfl
theorem dg_ (v:Value)(w:World):(Instr.typeAssert (.iface 186 v) 116 183 true).run prog w=.ok (.tuple #[.agg #[.string .empty],.bool false]) w:=by kernel_rfl
theorem cV_ (v:Value)(w:World):(Instr.typeAssert (.iface 186 v) 116 186 true).run prog w=.ok (.tuple #[v,.bool true]) w:=by kernel_rfl
theorem dJ_ (v:Value)(w:World):(Instr.typeAssert (.iface 191 v) 116 183 true).run prog w=.ok (.tuple #[.agg #[.string .empty],.bool false]) w:=by kernel_rfl
theorem dh_ (v:Value)(w:World):(Instr.typeAssert (.iface 191 v) 116 186 true).run prog w=.ok (.tuple #[.agg #[],.bool false]) w:=by kernel_rfl
theorem dK_ (v:Value)(w:World):(Instr.typeAssert (.iface 191 v) 116 191 true).run prog w=.ok (.tuple #[v,.bool true]) w:=by kernel_rfl
theorem dL_ (v:Value)(w:World):(Instr.typeAssert (.iface 193 v) 116 183 true).run prog w=.ok (.tuple #[.agg #[.string .empty],.bool false]) w:=by kernel_rfl
theorem di_ (v:Value)(w:World):(Instr.typeAssert (.iface 193 v) 116 186 true).run prog w=.ok (.tuple #[.agg #[],.bool false]) w:=by kernel_rfl
theorem dM_ (v:Value)(w:World):(Instr.typeAssert (.iface 193 v) 116 191 true).run prog w=.ok (.tuple #[.agg #[.string .empty,.string .empty],.bool false]) w:=by kernel_rfl
theorem dN_ (v:Value)(w:World):(Instr.typeAssert (.iface 193 v) 116 193 true).run prog w=.ok (.tuple #[v,.bool true]) w:=by kernel_rfl
theorem ea_ (v:Value)(w:World):(Instr.typeAssert (.iface 196 v) 116 183 true).run prog w=.ok (.tuple #[.agg #[.string .empty],.bool false]) w:=by kernel_rfl
theorem dO_ (v:Value)(w:World):(Instr.typeAssert (.iface 196 v) 116 186 true).run prog w=.ok (.tuple #[.agg #[],.bool false]) w:=by kernel_rfl
theorem eb_ (v:Value)(w:World):(Instr.typeAssert (.iface 196 v) 116 191 true).run prog w=.ok (.tuple #[.agg #[.string .empty,.string .empty],.bool false]) w:=by kernel_rfl
theorem ec_ (v:Value)(w:World):(Instr.typeAssert (.iface 196 v) 116 193 true).run prog w=.ok (.tuple #[.agg #[.string .empty],.bool false]) w:=by kernel_rfl
theorem eD_ (v:Value)(w:World):(Instr.typeAssert (.iface 196 v) 116 196 true).run prog w=.ok (.tuple #[v,.bool true]) w:=by kernel_rfl
theorem dj_ (v:Value)(w:World):(Instr.typeAssert (.iface 201 v) 116 183 true).run prog w=.ok (.tuple #[.agg #[.string .empty],.bool false]) w:=by kernel_rfl
theorem cW_ (v:Value)(w:World):(Instr.typeAssert (.iface 201 v) 116 186 true).run prog w=.ok (.tuple #[.agg #[],.bool false]) w:=by kernel_rfl
theorem dk_ (v:Value)(w:World):(Instr.typeAssert (.iface 201 v) 116 191 true).run prog w=.ok (.tuple #[.agg #[.string .empty,.string .empty],.bool false]) w:=by kernel_rfl
theorem dl_ (v:Value)(w:World):(Instr.typeAssert (.iface 201 v) 116 193 true).run prog w=.ok (.tuple #[.agg #[.string .empty],.bool false]) w:=by kernel_rfl
theorem dP_ (v:Value)(w:World):(Instr.typeAssert (.iface 201 v) 116 196 true).run prog w=.ok (.tuple #[.agg #[.string .empty],.bool false]) w:=by kernel_rfl
theorem cX_ (v:Value)(w:World):(Instr.typeAssert (.iface 201 v) 116 201 true).run prog w=.ok (.tuple #[v,.bool true]) w:=by kernel_rfl
theorem dQ_ (v:Value)(w:World):(Instr.typeAssert (.iface 204 v) 116 183 true).run prog w=.ok (.tuple #[.agg #[.string .empty],.bool false]) w:=by kernel_rfl
theorem dm_ (v:Value)(w:World):(Instr.typeAssert (.iface 204 v) 116 186 true).run prog w=.ok (.tuple #[.agg #[],.bool false]) w:=by kernel_rfl
theorem dR_ (v:Value)(w:World):(Instr.typeAssert (.iface 204 v) 116 191 true).run prog w=.ok (.tuple #[.agg #[.string .empty,.string .empty],.bool false]) w:=by kernel_rfl
theorem dS_ (v:Value)(w:World):(Instr.typeAssert (.iface 204 v) 116 193 true).run prog w=.ok (.tuple #[.agg #[.string .empty],.bool false]) w:=by kernel_rfl
theorem ed_ (v:Value)(w:World):(Instr.typeAssert (.iface 204 v) 116 196 true).run prog w=.ok (.tuple #[.agg #[.string .empty],.bool false]) w:=by kernel_rfl
theorem dn_ (v:Value)(w:World):(Instr.typeAssert (.iface 204 v) 116 201 true).run prog w=.ok (.tuple #[.agg #[.string .empty,.string .empty,.int .i64 0,.string .empty],.bool false]) w:=by kernel_rfl
theorem dT_ (v:Value)(w:World):(Instr.typeAssert (.iface 204 v) 116 204 true).run prog w=.ok (.tuple #[v,.bool true]) w:=by kernel_rfl
theorem ee_ (v:Value)(w:World):(Instr.typeAssert (.iface 207 v) 116 183 true).run prog w=.ok (.tuple #[.agg #[.string .empty],.bool false]) w:=by kernel_rfl
theorem dU_ (v:Value)(w:World):(Instr.typeAssert (.iface 207 v) 116 186 true).run prog w=.ok (.tuple #[.agg #[],.bool false]) w:=by kernel_rfl
theorem ef_ (v:Value)(w:World):(Instr.typeAssert (.iface 207 v) 116 191 true).run prog w=.ok (.tuple #[.agg #[.string .empty,.string .empty],.bool false]) w:=by kernel_rfl
theorem eg_ (v:Value)(w:World):(Instr.typeAssert (.iface 207 v) 116 193 true).run prog w=.ok (.tuple #[.agg #[.string .empty],.bool false]) w:=by kernel_rfl
theorem eE_ (v:Value)(w:World):(Instr.typeAssert (.iface 207 v) 116 196 true).run prog w=.ok (.tuple #[.agg #[.string .empty],.bool false]) w:=by kernel_rfl
theorem dV_ (v:Value)(w:World):(Instr.typeAssert (.iface 207 v) 116 201 true).run prog w=.ok (.tuple #[.agg #[.string .empty,.string .empty,.int .i64 0,.string .empty],.bool false]) w:=by kernel_rfl
theorem eh_ (v:Value)(w:World):(Instr.typeAssert (.iface 207 v) 116 204 true).run prog w=.ok (.tuple #[.agg #[.string .empty,.string .empty,.int .i64 0,.string .empty,.string .empty,.int .i64 0,.int .i64 0],.bool false]) w:=by kernel_rfl
theorem eF_ (v:Value)(w:World):(Instr.typeAssert (.iface 207 v) 116 207 true).run prog w=.ok (.tuple #[v,.bool true]) w:=by kernel_rfl
theorem do_ (v:Value)(w:World):(Instr.typeAssert (.iface 210 v) 116 183 true).run prog w=.ok (.tuple #[.agg #[.string .empty],.bool false]) w:=by kernel_rfl
theorem cY_ (v:Value)(w:World):(Instr.typeAssert (.iface 210 v) 116 186 true).run prog w=.ok (.tuple #[.agg #[],.bool false]) w:=by kernel_rfl
theorem dp_ (v:Value)(w:World):(Instr.typeAssert (.iface 210 v) 116 191 true).run prog w=.ok (.tuple #[.agg #[.string .empty,.string .empty],.bool false]) w:=by kernel_rfl
theorem dq_ (v:Value)(w:World):(Instr.typeAssert (.iface 210 v) 116 193 true).run prog w=.ok (.tuple #[.agg #[.string .empty],.bool false]) w:=by kernel_rfl
theorem dW_ (v:Value)(w:World):(Instr.typeAssert (.iface 210 v) 116 196 true).run prog w=.ok (.tuple #[.agg #[.string .empty],.bool false]) w:=by kernel_rfl
theorem cZ_ (v:Value)(w:World):(Instr.typeAssert (.iface 210 v) 116 201 true).run prog w=.ok (.tuple #[.agg #[.string .empty,.string .empty,.int .i64 0,.string .empty],.bool false]) w:=by kernel_rfl
theorem dr_ (v:Value)(w:World):(Instr.typeAssert (.iface 210 v) 116 204 true).run prog w=.ok (.tuple #[.agg #[.string .empty,.string .empty,.int .i64 0,.string .empty,.string .empty,.int .i64 0,.int .i64 0],.bool false]) w:=by kernel_rfl
theorem dX_ (v:Value)(w:World):(Instr.typeAssert (.iface 210 v) 116 207 true).run prog w=.ok (.tuple #[.agg #[.string .empty,.string .empty,.int .i64 0],.bool false]) w:=by kernel_rfl
theorem c0_ (v:Value)(w:World):(Instr.typeAssert (.iface 210 v) 116 210 true).run prog w=.ok (.tuple #[v,.bool true]) w:=by kernel_rfl
theorem c1_ (v:Value)(w:World):(Instr.typeAssert (.iface 213 v) 116 183 true).run prog w=.ok (.tuple #[.agg #[.string .empty],.bool false]) w:=by kernel_rfl
theorem cC_ (v:Value)(w:World):(Instr.typeAssert (.iface 213 v) 116 186 true).run prog w=.ok (.tuple #[.agg #[],.bool false]) w:=by kernel_rfl
theorem c2_ (v:Value)(w:World):(Instr.typeAssert (.iface 213 v) 116 191 true).run prog w=.ok (.tuple #[.agg #[.string .empty,.string .empty],.bool false]) w:=by kernel_rfl
theorem c3_ (v:Value)(w:World):(Instr.typeAssert (.iface 213 v) 116 193 true).run prog w=.ok (.tuple #[.agg #[.string .empty],.bool false]) w:=by kernel_rfl
theorem ds_ (v:Value)(w:World):(Instr.typeAssert (.iface 213 v) 116 196 true).run prog w=.ok (.tuple #[.agg #[.string .empty],.bool false]) w:=by kernel_rfl
theorem cD_ (v:Value)(w:World):(Instr.typeAssert (.iface 213 v) 116 201 true).run prog w=.ok (.tuple #[.agg #[.string .empty,.string .empty,.int .i64 0,.string .empty],.bool false]) w:=by kernel_rfl
theorem c4_ (v:Value)(w:World):(Instr.typeAssert (.iface 213 v) 116 204 true).run prog w=.ok (.tuple #[.agg #[.string .empty,.string .empty,.int .i64 0,.string .empty,.string .empty,.int .i64 0,.int .i64 0],.bool false]) w:=by kernel_rfl
theorem dt_ (v:Value)(w:World):(Instr.typeAssert (.iface 213 v) 116 207 true).run prog w=.ok (.tuple #[.agg #[.string .empty,.string .empty,.int .i64 0],.bool false]) w:=by kernel_rfl
theorem cE_ (v:Value)(w:World):(Instr.typeAssert (.iface 213 v) 116 210 true).run prog w=.ok (.tuple #[.agg #[.string .empty,.string .empty,.int .i64 0,.int .i64 0],.bool false]) w:=by kernel_rfl
theorem cz_ (v:Value)(w:World):(Instr.typeAssert (.iface 213 v) 116 213 true).run prog w=.ok (.tuple #[v,.bool true]) w:=by kernel_rfl
end
end Go.Proofs.YtbbhcnjhohidnaaGreatDoor
