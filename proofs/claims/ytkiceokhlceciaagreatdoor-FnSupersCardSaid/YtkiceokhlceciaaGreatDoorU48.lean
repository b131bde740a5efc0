/- Texts of pools, read and written; what is drawn. -/
import Derived.Test.YtkiceokhlceciaaGreatDoorU28
import Derived.Test.YtkiceokhlceciaaGreatDoorU36
set_option maxHeartbeats 20000000
set_option maxRecDepth 100000
namespace Go.Proofs.YtkiceokhlceciaaGreatDoor
section
open Go.RowKit Go.BigFrame Tryz
theorem MK (a:Option Addr)(n cap:Nat)(w:World)(hn:n<=9223372036854775807) :
  Calls prog 4 #[.slice a n cap] w fun e w'=>e=.returned (.bool (decide (1048576<n)))∧w'=w:=by
 go_enter func4,ntmps4
 go_wp2
 go_returns
 go_light
 refine ⟨ac_ ?_,rfl⟩
 rw[YH]
 simp
 omega
end
section
open Go.ChangeShapes Go.WideShapes Go.ChangeAt Go.RowKit Go.Deep Tryz
theorem c5:prog.cellsOf 5=1:=by kernel_rfl
theorem ML {H:Type}{enc:TypeId×Value->H}{w:World}{spare:Nat->Bool}{held:Bool}{a:Option Addr}{n cap:Nat}{d:DataW H}{p:List MemPlace}
  (h:DataW.Trod enc prog w 0 spare held 22 (.slice a n cap) d p):n<=maxLen∧DH w a n:=by
 obtain⟨fuel,hf⟩:=h
 rcases open_slice underlying22 hf with⟨hb,_⟩ | ⟨ad,len,cap',m,n',D,Pl,hb,_,hl,hm,hn,_,hk⟩
 ·simp[Value.cells] at hb
  obtain⟨rfl,rfl,rfl⟩:=hb
  exact⟨Zg _,fun i hi=>by omega⟩
 ·simp[Value.cells] at hb
  obtain⟨rfl,rfl,rfl⟩:=hb
  have ho:n<=m:=by rw[hn];split<;>omega
  refine ⟨Zl hl hm,fun i hi=>?_⟩
  have he:∀ i,i<n->∃ z:Int,0<=z∧z<=255∧w.cell? (ad.add i)=some (.int .u8 z):=by
   intro i hi
   obtain⟨cs',h1,h2⟩:=hk i (by omega)
   rw[c5] at h1
   obtain⟨_,hg,ha⟩:=World.cells?_some h1
   obtain⟨z,e,_,hz⟩:=DataW.trod_int underlying5 h2
   match cs',hg with
   |[x0],_=>
    simp at e
    subst e
    have hc:=ha 0 (by omega)
    rw[Addr.add_add] at hc
    have hh:=bounds_u8 hz
    exact⟨z,hh.1,hh.2,by simpa using hc⟩
  obtain⟨z,h0,h1,hc⟩:=he i hi
  obtain⟨z',_,_,hj⟩:=he 0 (by omega)
  obtain⟨b,o,rfl⟩:=K7 hj rfl
  exact⟨b,o,z,rfl,h0,h1,by rw[Addr.add_lit] at hc;exact hc⟩
end
section
open Go.RowKit Go.BigFrame Tryz
def K4 (s n:Int):Value:=.agg #[.int .i64 s,.int .i64 n,.slice none 0 0,.slice none 0 0,.slice none 0 0,.slice none 0 0]
def KU (size:Int):Bool:=decide (1<=size)&&decide (size<=400)
theorem Hv (size:Int)(w:World) :
  Calls prog 33 #[.int .i64 size] w fun e w'=>e=.returned (.tuple #[if KU size=true then K4 size 1 else K4 0 0,.bool (KU size)])∧Below w.heap.size w w':=by
 cases hn:KU size
 all_goals
  have ha:(decide (1<=size)&&decide (size<=400))=_:=hn
  go_enter func33,ntmps33
  go_wp2_with fail
  refine (ai_ _ _ _ _).mono ?_
  rintro e w1 ⟨rfl,rfl⟩
  rw[ha]
  go_wp2
  go_returns
  go_light
  exact⟨rfl,by go_grown⟩
end
section
open Go Go.RowKit Go.BigFrame Tryz
theorem Ag.lowB {B k:Nat}{w w':World}{v:Value}{p:Po}(h:Ag B w v p)(hg:w.grownBy w' (some k))(hk:k<B):Ag B w' v p:=by
 obtain⟨ea,en,ec,va,vn,vc,ra,rn,rc,la,ln,lc,rows,hv,h1,⟨h2,h3⟩,h4,h5,h6⟩:=h
 have lo:∀ {α:Type} {cs:α->List Value} {sz:Nat} {t:TypeId} {a:Option Addr} {n cap:Nat} {l:List α},Ad cs sz t w B a n cap l->Ad cs sz t w' B a n cap l:=fun R=>R.grown hg (fun ad ha=>by have:=(R.block ad ha).1;omega)
 refine ⟨ea,en,ec,va,vn,vc,ra,rn,rc,la,ln,lc,rows,hv,lo h1,⟨lo h2,⟨h3.len,fun i r y e1 e2=>?_⟩⟩,lo h4,lo h5,h6⟩
 obtain⟨q1,q2,q3,rs,R,T⟩:=h3.at' i r y e1 e2
 exact⟨q1,q2,q3,rs,lo R,T.len,fun i r y e1 e2=>⟨(T.at' i r y e1 e2).nm,lo (T.at' i r y e1 e2).ps⟩⟩
theorem J8 (B:Nat)(w:World)(s n:Int):Ag B w (.agg #[.int .i64 s,.int .i64 n,.slice none 0 0,.slice none 0 0,.slice none 0 0,.slice none 0 0]) ⟨s,n,[],[],[],[]⟩:=⟨_,_,_,_,_,_,_,_,_,_,_,_,[],rfl,aB_,⟨aB_,Bc.nil _ _⟩,aB_,aB_,fun x y h=>by cases h⟩
theorem Hn (p:Po)(o:Opr):(Ej p o).2.ex.length<=60:=by
 unfold Ej
 split
 ·rename_i hp
  have ha:p.ex.length<=60:=(cu_ (aQ_ hp).1).2.2.1
  unfold opS
  split
  ·split
   ·exact Zl (Yc _ _) ha
   ·split
    ·split
     ·rename_i hq
      exact (cu_ (aQ_ hq).1).2.2.1
     ·exact ha
    ·exact ha
  ·exact ha
 ·exact Zg _
def JN (p:Po):Prop:=AJ p∧p.ex.length<=60
theorem LA (s n:Int):AJ ⟨s,n,[],[],[],[]⟩:=⟨Zg _,(fun e he=>by cases he),Zg _,(fun e he=>by cases he),Zg _,(fun e he=>by cases he),Zg _,(fun e he=>by cases he)⟩
theorem Ag.ref0 {B:Nat}{w:World}{p:Po}{ea va la:Option Addr}{en ec vn vc rn rc ln lc b:Nat}{x:Int}(h:Ag B w (.agg #[.int .i64 p.size,.int .i64 p.next,.slice ea en ec,.slice va vn vc,.slice (some ⟨b,0,none⟩) rn rc,.slice la ln lc]) p)(h0:0<rn)(hd:AJ p) :
  ∃ q:Po,q.ex=p.ex∧AJ q∧Ag B (w.setCell ⟨b,3,none⟩ (.int .i64 x)) (.agg #[.int .i64 p.size,.int .i64 p.next,.slice ea en ec,.slice va vn vc,.slice (some ⟨b,0,none⟩) rn rc,.slice la ln lc]) q:=by
 obtain⟨_,_,_,_,_,_,_,_,_,_,_,_,rows,hv,h1,⟨h2,h3⟩,h4,h5,h6⟩:=h
 simp only[Value.agg.injEq,Array.mk.injEq,List.cons.injEq,Value.slice.injEq,and_true,true_and] at hv
 obtain⟨⟨rfl,rfl,rfl⟩,⟨rfl,rfl,rfl⟩,⟨rfl,rfl,rfl⟩,⟨rfl,rfl,rfl⟩⟩:=hv
 have hk:=h4.sl.len
 obtain⟨c,hc⟩:∃ c,p.rf[0]?=some c:=⟨_,ZI (by omega)⟩
 have R4:=h4.set1 aS_ hc (j:=3) (v:=.int .i64 x) (x':=⟨c.o,x⟩) (by omega) rfl
 simp only[Nat.zero_mul,Zq] at R4
 obtain⟨cs,hb⟩:=h4.blkAt
 have hg:=CS w b 3 (.int .i64 x)
 have hn:0<rc:=by
  rcases h4.own with⟨h0,_⟩ | ⟨_,_,_,h0,_⟩
  ·cases h0
  ·omega
 have hm:∀ ad,la=some ad->some ad.block≠some b:=fun ad ha e=>by
  injection e with e
  by_cases hl:0<lc
  ·exact h6 _ _ rfl ha hn hl (by simp only;omega)
  ·rcases h5.own with⟨q0,_⟩ | ⟨b',q1,_,_,_,c',he,hf,_⟩
   ·rw[q0] at ha;cases ha
   ·rw[q1] at ha;cases ha
    simp only at e
    subst e
    rcases h4.own with⟨q0,_⟩ | ⟨b2,q2,_,_,_,c2,hj,hh,_⟩
    ·cases q0
    ·cases q2
     have:c2=c':=by
      unfold Blk at hj he
      rw[hj] at he
      injection he with e1
      injection e1
     rw[this,hf] at hh
     omega
 obtain⟨z1,z2,z3,z4,z5,z6,z7,z8⟩:=hd
 refine ⟨{p with rf:=p.rf.set 0 ⟨c.o,x⟩},rfl,⟨z1,z2,z3,z4,by simpa using z5,?_,z7,z8⟩,_,_,_,_,_,_,_,_,_,_,_,_,rows,rfl,h1.ty hg (aa_ hb) (by decide),⟨h2.ty hg (aa_ hb) (by decide),h3.ty hg (aa_ hb) (by decide) (by decide)⟩,R4,h5.off hg hm,h6⟩
 intro d hd
 rcases List.mem_or_eq_of_mem_set hd with hd | rfl
 ·exact z6 d hd
 ·exact z6 c (Zc hc)
theorem Nl {P:Program}{Q:Exit->Act->World->Prop}{md:Region.Mode}{S:World->Prop}{l:List Oper}{i j:Nat}{o o':Oper}{fuel:Nat}{listed:Array Bool}{a:Act}{w:World}(hr:Region.ready md l.toArray listed=[i,j])(hi:l[i]?=some o)(hj:l[j]?=some o')
  (h:∀ K':Act->World->Prop,Shut (∀ a w,S w->(S w->wpAnyH P md l.toArray Q S fuel (listed.setIfInBounds i true) a w)->K' a w)->if Region.wanted o (yielded l.toArray a.tmps)=true then Oper.wp P o a w K' Q else K' (a.put o.dst undef) w)
  (h':∀ K':Act->World->Prop,Shut (∀ a w,S w->(S w->wpAnyH P md l.toArray Q S fuel (listed.setIfInBounds j true) a w)->K' a w)->if Region.wanted o' (yielded l.toArray a.tmps)=true then Oper.wp P o' a w K' Q else K' (a.put o'.dst undef) w) :
  wpAnyH P md l.toArray Q S (fuel+1) listed a w:=
 wpAnyH_ready hr (by simp) (AllReadyH.cons (by simpa using hi) h (AllReadyH.cons (by simpa using hj) h' AllReadyH.nil))
theorem MM (B:Nat)(most:Int)(hm0:0<=most)(hm:most<=1000)(w:World)(h:Rd w B) :
  Calls prog 13 #[.pointer (some ⟨B,0,none⟩),.int .i64 most] w fun e w'=>(∃ v p,e=.returned v∧Ag w.heap.size w' v p∧JN p)∧Rd w' B∧w.grownBy w' (some B):=by
 have hr:=h.lt
 go_enter func13,ntmps13
 go_wp2_with fail
 refine (Av B 100 _ (h.below (by go_grown)) (by omega) (by omega)).mono ?_
 rintro e w1 ⟨⟨x,rfl,hx⟩,hY,hO⟩
 have D1:Blk w1 w.heap.size #[.int .i64 0,.int .i64 0,.slice none 0 0,.slice none 0 0,.slice none 0 0,.slice none 0 0] 28:=(Blk.new w _ _).grown hO (by omega)
 have hU:w.grownBy w1 (some B):=aV_ (au_ (AS w B) (by go_grown)) hO
 clear hO
 have hL:KU (60+(x:Int))=true:=by simp[KU];omega
 go_wp2_with fail
 refine (Hv (60+(x:Int)) _).mono ?_
 rintro e w2 ⟨rfl,hN⟩
 rw[hL,if_pos rfl]
 unfold K4
 have D2:=D1.below hN
 have hV:=au_ hU hN
 have hZ:=hY.below hN
 have qi:=D2.lt
 clear D1 hU hY hN hL
 have hM:Below w2.heap.size w2 (w2.alloc (.cells #[.int .i64 (60+(x:Int)),.int .i64 1,.slice none 0 0,.slice none 0 0,.slice none 0 0,.slice none 0 0] 28)):=(Yg _ _).alloc (Zd _) _
 have P3:=Blk.new w2 #[.int .i64 (60+(x:Int)),.int .i64 1,.slice none 0 0,.slice none 0 0,.slice none 0 0,.slice none 0 0] 28
 go_wp2_with fail
 have D3:=D2.below hM
 have hW:=au_ hV hM
 have h1:=hZ.below hM
 obtain⟨pb,hQ⟩:∃ pb,w2.heap.size=pb:=⟨_,rfl⟩
 rw[hQ] at qi P3
 generalize w2.alloc (.cells #[.int .i64 (60+(x:Int)),.int .i64 1,.slice none 0 0,.slice none 0 0,.slice none 0 0,.slice none 0 0] 28)=w3 at *
 rw[hQ]
 clear hM D2 hV hZ hQ
 refine (nK_ w.heap.size (by omega) _ ⟨60+(x:Int),1,[],[],[],[]⟩ ⟨1,⟨#[117]⟩,⟨#[]⟩,⟨#[]⟩,⟨#[]⟩,0,0,0,⟨#[]⟩⟩ w3 (J8 _ _ _ _).at' (LA _ _) ⟨by decide,by decide,by decide,by decide,by decide⟩).mono ?_
 rintro e w4 ⟨⟨v',c,rfl,_,PT,hs⟩,hI⟩
 obtain⟨p,hp⟩:∃ p,(Ej ⟨60+(x:Int),1,[],[],[],[]⟩ ⟨1,⟨#[117]⟩,⟨#[]⟩,⟨#[]⟩,⟨#[]⟩,0,0,0,⟨#[]⟩⟩).2=p:=⟨_,rfl⟩
 have hH:JN p:=by rw[<-hp];exact⟨hs,Hn _ _⟩
 rw[hp] at PT hs
 clear hp hs
 have hT:=PT.mono (show w.heap.size<=w3.heap.size by have:=D3.lt;omega)
 obtain⟨ea,en,ec,va,vn,vc,ra,rn,rc,la,ln,lc,rows,rfl,hJ⟩:=PT
 clear hJ
 have D4:=D3.below hI
 have P4:=P3.below hI
 have hX:=au_ hW hI
 have h2:=h1.below hI
 clear D3 P3 hW h1 hI
 obtain⟨x0,x1,x2,x3,x4,x5⟩:=P4.six'
 have f0:=P4.frozen 0
 have f1:=P4.frozen 1
 have f2:=P4.frozen 2
 have f3:=P4.frozen 3
 have f4:=P4.frozen 4
 have f5:=P4.frozen 5
 go_wp2_with fail
 obtain⟨w5,hc,P5,he⟩:=Ba P4 (.int .i64 p.size) (.int .i64 p.next) (.slice ea en ec) (.slice va vn vc) (.slice ra rn rc) (.slice la ln lc)
 rw[<-hc]
 clear hc
 have D5:=D4.grown he (by omega)
 have hh:=hT.tyP he (aa_ P4)
 have hj:=Ay hX he (fun k e=>by cases e;omega)
 have hn:=h2.grown he (by omega)
 clear x0 x1 x2 x3 x4 x5 f0 f1 f2 f3 f4 f5
 clear D4 P4 hT hX h2 he
 refine (Av B (most+1) _ hn (by omega) (by omega)).mono ?_
 rintro e w6 ⟨⟨k0,rfl,qj⟩,ho,hf⟩
 have D6:=D5.grown hf (by omega)
 have P6:=P5.grown hf (by omega)
 have hb:=hh.lowB hf hr
 have hl:=aV_ hj hf
 clear D5 P5 hh hj hn hf
 go_wp2_with fail
 go_loopw [7] (fun ix wr=>∃ (k:Nat) (p:Po) (ea:Option Addr) (en ec:Nat) (va:Option Addr) (vn vc:Nat) (ra:Option Addr) (rn rc:Nat) (la:Option Addr) (ln lc:Nat),ix=.int .i64 k∧k<=k0∧Blk wr w.heap.size #[.int .i64 0,.int .i64 0,.slice none 0 0,.slice none 0 0,.slice none 0 0,.slice none 0 0] 28∧Blk wr pb #[.int .i64 p.size,.int .i64 p.next,.slice ea en ec,.slice va vn vc,.slice ra rn rc,.slice la ln lc] 28∧Ag w.heap.size wr (.agg #[.int .i64 p.size,.int .i64 p.next,.slice ea en ec,.slice va vn vc,.slice ra rn rc,.slice la ln lc]) p∧JN p∧Rd wr B∧w.grownBy wr (some B)) (fun ix _=>(intOf ix).toNat)
 case atStart=>exact⟨k0,p,ea,en,ec,va,vn,vc,ra,rn,rc,la,ln,lc,rfl,Zd _,D6,P6,hb,hH,ho,hl⟩
 case round=>
  clear D6 P6 hb hH ho hl
  obtain⟨k,p,ea,en,ec,va,vn,vc,ra,rn,rc,la,ln,lc,rfl,hk,D,P,PT,hd,hR,hG⟩:=hrel
  by_cases hpos:0<k
  ·have qk:(0:Int)<k:=by omega
   obtain⟨x0,x1,x2,x3,x4,x5⟩:=P.six'
   have f0:=P.frozen 0
   have f1:=P.frozen 1
   have f2:=P.frozen 2
   have f3:=P.frozen 3
   have f4:=P.frozen 4
   have f5:=P.frozen 5
   go_wp2_with fail
   refine aC_ (S:=fun _=>True) 8 (by kernel_rfl) rfl ?_
   refine tk 1 ?_
   refine Nl (i:=0) (j:=2) (by kernel_rfl) rfl rfl (fun K hK=>?_) (fun K hK=>?_)
   ·have dr0:wr.drew.cell? ⟨pb,0,none⟩=some (.int .i64 p.size):=x0
    have dr1:wr.drew.cell? ⟨pb,1,none⟩=some (.int .i64 p.next):=x1
    have dr2:wr.drew.cell? ⟨pb,2,none⟩=some (.slice ea en ec):=x2
    have dr3:wr.drew.cell? ⟨pb,3,none⟩=some (.slice va vn vc):=x3
    have dr4:wr.drew.cell? ⟨pb,4,none⟩=some (.slice ra rn rc):=x4
    have dr5:wr.drew.cell? ⟨pb,5,none⟩=some (.slice la ln lc):=x5
    go_simp
    refine hK.out _ _ trivial (fun hHeld=>?_)
    clear hK K
    clear dr0 dr1 dr2 dr3 dr4 dr5
    try simp only[Act.put,Yj,Yq,Yr]
    refine Aq (i:=2) (by kernel_rfl) rfl (fun K hK=>?_)
    go_simp
    refine (JC B _ (hR.below ((Yg _ _).drew))).mono ?_
    rintro e w5 ⟨⟨o,rfl,hS⟩,hn,hF⟩
    have he:=aV_ (au_ (AS wr B) ((Yg _ _).drew)) hF
    have P5:=P.grown he (by omega)
    have D5:=D.grown he (by omega)
    have hh:=PT.lowB he hr
    have hj:=aV_ hG he
    clear x0 x1 x2 x3 x4 x5 f0 f1 f2 f3 f4 f5
    obtain⟨x0,x1,x2,x3,x4,x5⟩:=P5.six'
    have f0:=P5.frozen 0
    have f1:=P5.frozen 1
    have f2:=P5.frozen 2
    have f3:=P5.frozen 3
    have f4:=P5.frozen 4
    have f5:=P5.frozen 5
    dsimp only
    refine hK.out _ _ trivial (fun hHeld=>?_)
    clear hK K
    try simp only[Act.put,Yj,Yq,Yr]
    refine Aq (i:=3) (by kernel_rfl) rfl (fun K hK=>?_)
    go_simp
    refine (nK_ w.heap.size (by omega) _ p o w5 hh.at' hd.1 hS).mono ?_
    rintro e w6 ⟨⟨v',c,rfl,_,hb,hs⟩,hw⟩
    obtain⟨q,hq⟩:∃ q,(Ej p o).2=q:=⟨_,rfl⟩
    have hH:JN q:=by rw[<-hq];exact⟨hs,Hn _ _⟩
    rw[hq] at hb hs
    clear hq hs
    replace hb:=hb.mono (show w.heap.size<=w5.heap.size by have:=D5.lt;omega)
    have hD:=hb
    obtain⟨ea',en',ec',va',vn',vc',ra',rn',rc',la',ln',lc',rows',rfl,_⟩:=hb
    have P6:=P5.below hw
    have D6:=D5.below hw
    have hl:=au_ hj hw
    have ho:=hn.below hw
    clear x0 x1 x2 x3 x4 x5 f0 f1 f2 f3 f4 f5
    obtain⟨x0,x1,x2,x3,x4,x5⟩:=P6.six'
    have f0:=P6.frozen 0
    have f1:=P6.frozen 1
    have f2:=P6.frozen 2
    have f3:=P6.frozen 3
    have f4:=P6.frozen 4
    have f5:=P6.frozen 5
    dsimp only
    refine hK.out _ _ trivial (fun hHeld=>?_)
    clear hK K
    try simp only[Act.put,Yj,Yq,Yr]
    refine tk 4 ?_
    refine tk 5 ?_
    refine tk 6 ?_
    refine Aq (i:=7) (by kernel_rfl) rfl (fun K hK=>?_)
    go_simp
    refine hK.out _ _ trivial (fun hHeld=>?_)
    clear hK K
    try simp only[Act.put,Yj,Yq,Yr]
    refine wpAnyH_done (by kernel_rfl) ?_ _
    obtain⟨w7,hc,P7,ha⟩:=Ba P6 (.int .i64 q.size) (.int .i64 q.next) (.slice ea' en' ec') (.slice va' vn' vc') (.slice ra' rn' rc') (.slice la' ln' lc')
    rw[<-hc]
    clear hc
    have D7:=D6.grown ha (by omega)
    have hu:=hD.tyP ha (aa_ P6)
    have hy:=Ay hl ha (fun k e=>by cases e;omega)
    have hB:=ho.grown ha (by omega)
    go_wp2
    go_roundw
    case rel=>exact⟨k-1,q,ea',en',ec',va',vn',vc',ra',rn',rc',la',ln',lc',by go_num,by omega,D7,P7,hu,hH,hB,hy⟩
    case measure=>simp[intOf];omega
   ·go_simp
    refine (JC B _ (hR.below ((Yg _ _).drew))).mono ?_
    rintro e w5 ⟨⟨o,rfl,hS⟩,hn,hF⟩
    have he:=aV_ (au_ (AS wr B) ((Yg _ _).drew)) hF
    have P5:=P.grown he (by omega)
    have D5:=D.grown he (by omega)
    have hh:=PT.lowB he hr
    have hj:=aV_ hG he
    clear x0 x1 x2 x3 x4 x5 f0 f1 f2 f3 f4 f5
    obtain⟨x0,x1,x2,x3,x4,x5⟩:=P5.six'
    have f0:=P5.frozen 0
    have f1:=P5.frozen 1
    have f2:=P5.frozen 2
    have f3:=P5.frozen 3
    have f4:=P5.frozen 4
    have f5:=P5.frozen 5
    dsimp only
    refine hK.out _ _ trivial (fun hHeld=>?_)
    clear hK K
    try simp only[Act.put,Yj,Yq,Yr]
    refine Aq (i:=0) (by kernel_rfl) rfl (fun K hK=>?_)
    go_simp
    refine hK.out _ _ trivial (fun hHeld=>?_)
    clear hK K
    try simp only[Act.put,Yj,Yq,Yr]
    refine Aq (i:=3) (by kernel_rfl) rfl (fun K hK=>?_)
    go_simp
    refine (nK_ w.heap.size (by omega) _ p o w5 hh.at' hd.1 hS).mono ?_
    rintro e w6 ⟨⟨v',c,rfl,_,hb,hs⟩,hw⟩
    obtain⟨q,hq⟩:∃ q,(Ej p o).2=q:=⟨_,rfl⟩
    have hH:JN q:=by rw[<-hq];exact⟨hs,Hn _ _⟩
    rw[hq] at hb hs
    clear hq hs
    replace hb:=hb.mono (show w.heap.size<=w5.heap.size by have:=D5.lt;omega)
    have hD:=hb
    obtain⟨ea',en',ec',va',vn',vc',ra',rn',rc',la',ln',lc',rows',rfl,_⟩:=hb
    have P6:=P5.below hw
    have D6:=D5.below hw
    have hl:=au_ hj hw
    have ho:=hn.below hw
    clear x0 x1 x2 x3 x4 x5 f0 f1 f2 f3 f4 f5
    obtain⟨x0,x1,x2,x3,x4,x5⟩:=P6.six'
    have f0:=P6.frozen 0
    have f1:=P6.frozen 1
    have f2:=P6.frozen 2
    have f3:=P6.frozen 3
    have f4:=P6.frozen 4
    have f5:=P6.frozen 5
    dsimp only
    refine hK.out _ _ trivial (fun hHeld=>?_)
    clear hK K
    try simp only[Act.put,Yj,Yq,Yr]
    refine tk 4 ?_
    refine tk 5 ?_
    refine tk 6 ?_
    refine Aq (i:=7) (by kernel_rfl) rfl (fun K hK=>?_)
    go_simp
    refine hK.out _ _ trivial (fun hHeld=>?_)
    clear hK K
    try simp only[Act.put,Yj,Yq,Yr]
    refine wpAnyH_done (by kernel_rfl) ?_ _
    obtain⟨w7,hc,P7,ha⟩:=Ba P6 (.int .i64 q.size) (.int .i64 q.next) (.slice ea' en' ec') (.slice va' vn' vc') (.slice ra' rn' rc') (.slice la' ln' lc')
    rw[<-hc]
    clear hc
    have D7:=D6.grown ha (by omega)
    have hu:=hD.tyP ha (aa_ P6)
    have hy:=Ay hl ha (fun k e=>by cases e;omega)
    have hB:=ho.grown ha (by omega)
    go_wp2
    go_roundw
    case rel=>exact⟨k-1,q,ea',en',ec',va',vn',vc',ra',rn',rc',la',ln',lc',by go_num,by omega,D7,P7,hu,hH,hB,hy⟩
    case measure=>simp[intOf];omega
  ·obtain rfl:k=0:=by omega
   go_wp2_with fail
   refine (Av B 40 _ hR (by omega) (by omega)).mono ?_
   rintro e w5 ⟨⟨z,rfl,hz⟩,hn,he⟩
   have P5:=P.grown he (by omega)
   have D5:=D.grown he (by omega)
   have hh:=PT.lowB he hr
   have hj:=aV_ hG he
   clear P D PT hG hR he
   rcases (show z=37∨z=38∨z=39∨(z≠37∧z≠38∧z≠39) by omega) with rfl | rfl | rfl | ⟨z1,z2,z3⟩
   ·go_wp2_with fail
    refine (Fj B 1 9 _ hn (by omega) (by omega) (by omega)).mono ?_
    rintro e w6 ⟨⟨y,rfl,_⟩,ho,hf⟩
    have P6:=P5.grown hf (by omega)
    have D6:=D5.grown hf (by omega)
    have hb:=hh.lowB hf hr
    have hl:=aV_ hj hf
    obtain⟨x0,x1,x2,x3,x4,x5⟩:=P6.six'
    have f0:=P6.frozen 0
    have f1:=P6.frozen 1
    have f2:=P6.frozen 2
    have f3:=P6.frozen 3
    have f4:=P6.frozen 4
    have f5:=P6.frozen 5
    have ha:=CS w6 pb 1 (.int .i64 y)
    have P7:Blk (w6.setCell ⟨pb,1,none⟩ (.int .i64 y)) pb #[.int .i64 p.size,.int .i64 y,.slice ea en ec,.slice va vn vc,.slice ra rn rc,.slice la ln lc] 28:=by simpa using P6.set 1 (.int .i64 y)
    have D7:=D6.grown ha (by omega)
    have hE:=hb.tyP ha (aa_ P6)
    have hu:Ag w.heap.size (w6.setCell ⟨pb,1,none⟩ (.int .i64 y)) (.agg #[.int .i64 p.size,.int .i64 y,.slice ea en ec,.slice va vn vc,.slice ra rn rc,.slice la ln lc]) {p with next:=y}:=by
     obtain⟨_,_,_,_,_,_,_,_,_,_,_,_,rows,hv,ht⟩:=hE
     simp only[Value.agg.injEq,Array.mk.injEq,List.cons.injEq,Value.slice.injEq,and_true,true_and] at hv
     obtain⟨⟨rfl,rfl,rfl⟩,⟨rfl,rfl,rfl⟩,⟨rfl,rfl,rfl⟩,⟨rfl,rfl,rfl⟩⟩:=hv
     exact⟨_,_,_,_,_,_,_,_,_,_,_,_,rows,rfl,ht⟩
    have hy:=Ay hl ha (fun k e=>by cases e;omega)
    have hB:=ho.grown ha (by omega)
    have h7:¬ pb=w.heap.size:=by omega
    have h8:¬ w.heap.size=pb:=by omega
    obtain⟨d0,d1,d2,d3,d4,d5⟩:=D6.six'
    have g0:=D6.frozen 0
    have g1:=D6.frozen 1
    have g2:=D6.frozen 2
    have g3:=D6.frozen 3
    have g4:=D6.frozen 4
    have g5:=D6.frozen 5
    go_wp2
    obtain⟨W8,hc,W0,hg⟩:=Ba D7 (.int .i64 p.size) (.int .i64 y) (.slice ea en ec) (.slice va vn vc) (.slice ra rn rc) (.slice la ln lc)
    rw[<-hc]
    clear hc
    have PF:=hu.tyP hg (aa_ D7)
    have hC:=hB.grown hg hr
    have hA:=Ay hy hg (fun k e=>by cases e;exact Zd _)
    refine YW (results_cell_row rfl _ W8 w.heap.size _ _ _ _ rfl W0 underlying28 rfl (by kernel_rfl)) rfl ?_
    exact⟨⟨_,{p with next:=y},rfl,PF,hd⟩,hC,hA⟩
   ·by_cases hrn:0<rn
    ·have qd:(0:Int)<rn:=by omega
     obtain⟨rb,rfl⟩:∃ rb,ra=some ⟨rb,0,none⟩:=by
      obtain⟨_,_,_,_,_,_,_,_,_,_,_,_,rows,hv,_,_,h4,_⟩:=hh
      simp only[Value.agg.injEq,Array.mk.injEq,List.cons.injEq,Value.slice.injEq,and_true,true_and] at hv
      obtain⟨⟨rfl,rfl,rfl⟩,⟨rfl,rfl,rfl⟩,⟨rfl,rfl,rfl⟩,⟨rfl,rfl,rfl⟩⟩:=hv
      rcases h4.own with⟨_,h0,_⟩ | ⟨b,h0,_⟩
      ·omega
      ·exact⟨b,h0⟩
     obtain⟨x0,x1,x2,x3,x4,x5⟩:=P5.six'
     have f0:=P5.frozen 0
     have f1:=P5.frozen 1
     have f2:=P5.frozen 2
     have f3:=P5.frozen 3
     have f4:=P5.frozen 4
     have f5:=P5.frozen 5
     go_wp2_with fail
     have h3:(fun u=>u.cell? ⟨pb,4,none⟩=some (.slice (some ⟨rb,0,none⟩) rn rc)) w5.drew:=x4
     refine ar_ (S:=(fun u=>u.cell? ⟨pb,4,none⟩=some (.slice (some ⟨rb,0,none⟩) rn rc))) 6 (by kernel_rfl) (by kernel_rfl) ?_
     refine tk 0 ?_
     refine tk 1 ?_
     refine tk 2 ?_
     refine Aq (i:=3) (by kernel_rfl) rfl (fun K hK=>?_)
     go_simp
     refine (Fj B 1 3 _ (hn.below ((Yg _ _).drew)) (by omega) (by omega) (by omega)).mono ?_
     rintro e w6 ⟨⟨y,rfl,_⟩,ho,hP⟩
     have hf:=aV_ (au_ (AS w5 B) ((Yg _ _).drew)) hP
     have P6:=P5.grown hf (by omega)
     have D6:=D5.grown hf (by omega)
     have hb:=hh.lowB hf hr
     have hl:=aV_ hj hf
     clear x0 x1 x2 x3 x4 x5 f0 f1 f2 f3 f4 f5
     obtain⟨x0,x1,x2,x3,x4,x5⟩:=P6.six'
     have f0:=P6.frozen 0
     have f1:=P6.frozen 1
     have f2:=P6.frozen 2
     have f3:=P6.frozen 3
     have f4:=P6.frozen 4
     have f5:=P6.frozen 5
     dsimp only
     refine hK.out _ _ x4 (fun hHeld=>?_)
     clear hK K
     try simp only[Act.put,Yj,Yq,Yr]
     refine tk 4 ?_
     refine tk 5 ?_
     refine wpAnyH_done (by kernel_rfl) ?_ _
     refine lastL rfl ?_
     clear h3 hHeld
     obtain⟨qq,qc,qa,hu⟩:=hb.ref0 (x:=y) hrn hd.1
     have qb:JN qq:=⟨qa,by rw[qc];exact hd.2⟩
     obtain⟨rcs,RB⟩:∃ c,Blk w6 rb c 68:=by
      obtain⟨_,_,_,_,_,_,_,_,_,_,_,_,rows,hv,_,_,h4,_⟩:=hb
      simp only[Value.agg.injEq,Array.mk.injEq,List.cons.injEq,Value.slice.injEq,and_true,true_and] at hv
      obtain⟨⟨rfl,rfl,rfl⟩,⟨rfl,rfl,rfl⟩,⟨rfl,rfl,rfl⟩,⟨rfl,rfl,rfl⟩⟩:=hv
      exact h4.blkAt
     have qm:w.heap.size<=rb:=by
      obtain⟨_,_,_,_,_,_,_,_,_,_,_,_,rows,hv,_,_,h4,_⟩:=hb
      simp only[Value.agg.injEq,Array.mk.injEq,List.cons.injEq,Value.slice.injEq,and_true,true_and] at hv
      obtain⟨⟨rfl,rfl,rfl⟩,⟨rfl,rfl,rfl⟩,⟨rfl,rfl,rfl⟩,⟨rfl,rfl,rfl⟩⟩:=hv
      exact (h4.block _ rfl).1
     have ha:=CS w6 rb 3 (.int .i64 y)
     have P7:=P6.ty ha (aa_ RB) (by decide)
     have D7:=D6.ty ha (aa_ RB) (by decide)
     have qe:¬ rb=pb:=fun e=>by subst e;exact absurd (kc_ P6 RB) (by decide)
     have qg:¬ rb=w.heap.size:=fun e=>by subst e;exact absurd (kc_ D6 RB) (by decide)
     have qf:¬ pb=rb:=fun e=>qe e.symm
     have qh:¬ w.heap.size=rb:=fun e=>qg e.symm
     have ql:¬ pb=w.heap.size:=by omega
     have h9:¬ w.heap.size=pb:=by omega
     have hy:=Ay hl ha (fun k e=>by cases e;omega)
     have hB:=ho.grown ha (by omega)
     obtain⟨rv,qo⟩:∃ rv,w6.cell? ⟨rb,3,none⟩=some rv:=by
      obtain⟨_,_,_,_,_,_,_,_,_,_,_,_,rows,hv,_,_,h4,_⟩:=hb
      simp only[Value.agg.injEq,Array.mk.injEq,List.cons.injEq,Value.slice.injEq,and_true,true_and] at hv
      obtain⟨⟨rfl,rfl,rfl⟩,⟨rfl,rfl,rfl⟩,⟨rfl,rfl,rfl⟩,⟨rfl,rfl,rfl⟩⟩:=hv
      have h6:=h4.sl.len
      have h5:=h4.cellAt (i:=0) (j:=3) (ZI (show 0<p.rf.length by omega)) rfl
      exact⟨_,by simpa using h5⟩
     have qn:=RB.frozen 3
     obtain⟨d0,d1,d2,d3,d4,d5⟩:=D6.six'
     have g0:=D6.frozen 0
     have g1:=D6.frozen 1
     have g2:=D6.frozen 2
     have g3:=D6.frozen 3
     have g4:=D6.frozen 4
     have g5:=D6.frozen 5
     go_wp2
     obtain⟨W8,hc,W0,hg⟩:=Ba D7 (.int .i64 p.size) (.int .i64 p.next) (.slice ea en ec) (.slice va vn vc) (.slice (some ⟨rb,0,none⟩) rn rc) (.slice la ln lc)
     rw[<-hc]
     clear hc
     have PF:=hu.tyP hg (aa_ D7)
     have hC:=hB.grown hg hr
     have hA:=Ay hy hg (fun k e=>by cases e;exact Zd _)
     refine YW (results_cell_row rfl _ W8 w.heap.size _ _ _ _ rfl W0 underlying28 rfl (by kernel_rfl)) rfl ?_
     exact⟨⟨_,qq,rfl,PF,qb⟩,hC,hA⟩
    ·obtain rfl:rn=0:=by omega
     obtain⟨y0,y1,y2,y3,y4,y5⟩:=P5.six'
     obtain⟨x0,x1,x2,x3,x4,x5⟩:=D5.six'
     have f0:=D5.frozen 0
     have f1:=D5.frozen 1
     have f2:=D5.frozen 2
     have f3:=D5.frozen 3
     have f4:=D5.frozen 4
     have f5:=D5.frozen 5
     go_wp2
     obtain⟨W8,hc,W0,hg⟩:=Ba D5 (.int .i64 p.size) (.int .i64 p.next) (.slice ea en ec) (.slice va vn vc) (.slice ra 0 rc) (.slice la ln lc)
     rw[<-hc]
     clear hc
     have PF:=hh.tyP hg (aa_ D5)
     have hC:=hn.grown hg hr
     have hA:=Ay hj hg (fun k e=>by cases e;exact Zd _)
     refine YW (results_cell_row rfl _ W8 w.heap.size _ _ _ _ rfl W0 underlying28 rfl (by kernel_rfl)) rfl ?_
     exact⟨⟨_,p,rfl,PF,hd⟩,hC,hA⟩
   ·go_wp2_with fail
    refine (Fj B 1 200 _ hn (by omega) (by omega) (by omega)).mono ?_
    rintro e w6 ⟨⟨y,rfl,_⟩,ho,hf⟩
    have P6:=P5.grown hf (by omega)
    have D6:=D5.grown hf (by omega)
    have hb:=hh.lowB hf hr
    have hl:=aV_ hj hf
    obtain⟨x0,x1,x2,x3,x4,x5⟩:=P6.six'
    have f0:=P6.frozen 0
    have f1:=P6.frozen 1
    have f2:=P6.frozen 2
    have f3:=P6.frozen 3
    have f4:=P6.frozen 4
    have f5:=P6.frozen 5
    have ha:=CS w6 pb 0 (.int .i64 y)
    have P7:Blk (w6.setCell ⟨pb,0,none⟩ (.int .i64 y)) pb #[.int .i64 y,.int .i64 p.next,.slice ea en ec,.slice va vn vc,.slice ra rn rc,.slice la ln lc] 28:=by simpa using P6.set 0 (.int .i64 y)
    have D7:=D6.grown ha (by omega)
    have hE:=hb.tyP ha (aa_ P6)
    have hu:Ag w.heap.size (w6.setCell ⟨pb,0,none⟩ (.int .i64 y)) (.agg #[.int .i64 y,.int .i64 p.next,.slice ea en ec,.slice va vn vc,.slice ra rn rc,.slice la ln lc]) {p with size:=y}:=by
     obtain⟨_,_,_,_,_,_,_,_,_,_,_,_,rows,hv,ht⟩:=hE
     simp only[Value.agg.injEq,Array.mk.injEq,List.cons.injEq,Value.slice.injEq,and_true,true_and] at hv
     obtain⟨⟨rfl,rfl,rfl⟩,⟨rfl,rfl,rfl⟩,⟨rfl,rfl,rfl⟩,⟨rfl,rfl,rfl⟩⟩:=hv
     exact⟨_,_,_,_,_,_,_,_,_,_,_,_,rows,rfl,ht⟩
    have hy:=Ay hl ha (fun k e=>by cases e;omega)
    have hB:=ho.grown ha (by omega)
    have h7:¬ pb=w.heap.size:=by omega
    have h8:¬ w.heap.size=pb:=by omega
    obtain⟨d0,d1,d2,d3,d4,d5⟩:=D6.six'
    have g0:=D6.frozen 0
    have g1:=D6.frozen 1
    have g2:=D6.frozen 2
    have g3:=D6.frozen 3
    have g4:=D6.frozen 4
    have g5:=D6.frozen 5
    go_wp2
    obtain⟨W8,hc,W0,hg⟩:=Ba D7 (.int .i64 y) (.int .i64 p.next) (.slice ea en ec) (.slice va vn vc) (.slice ra rn rc) (.slice la ln lc)
    rw[<-hc]
    clear hc
    have PF:=hu.tyP hg (aa_ D7)
    have hC:=hB.grown hg hr
    have hA:=Ay hy hg (fun k e=>by cases e;exact Zd _)
    refine YW (results_cell_row rfl _ W8 w.heap.size _ _ _ _ rfl W0 underlying28 rfl (by kernel_rfl)) rfl ?_
    exact⟨⟨_,{p with size:=y},rfl,PF,hd⟩,hC,hA⟩
   ·have y1:¬ (z:Int)=37:=by omega
    have y2:¬ (z:Int)=38:=by omega
    have y3:¬ (z:Int)=39:=by omega
    obtain⟨c0,c1,c2,c3,c4,c5⟩:=P5.six'
    obtain⟨x0,x1,x2,x3,x4,x5⟩:=D5.six'
    have f0:=D5.frozen 0
    have f1:=D5.frozen 1
    have f2:=D5.frozen 2
    have f3:=D5.frozen 3
    have f4:=D5.frozen 4
    have f5:=D5.frozen 5
    go_wp2
    obtain⟨W8,hc,W0,hg⟩:=Ba D5 (.int .i64 p.size) (.int .i64 p.next) (.slice ea en ec) (.slice va vn vc) (.slice ra rn rc) (.slice la ln lc)
    rw[<-hc]
    clear hc
    have PF:=hh.tyP hg (aa_ D5)
    have hC:=hn.grown hg hr
    have hA:=Ay hj hg (fun k e=>by cases e;exact Zd _)
    refine YW (results_cell_row rfl _ W8 w.heap.size _ _ _ _ rfl W0 underlying28 rfl (by kernel_rfl)) rfl ?_
    exact⟨⟨_,p,rfl,PF,hd⟩,hC,hA⟩
end
end Go.Proofs.YtkiceokhlceciaaGreatDoor
