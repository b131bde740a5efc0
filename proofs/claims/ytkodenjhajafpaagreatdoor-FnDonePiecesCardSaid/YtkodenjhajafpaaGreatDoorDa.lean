/- At every code: ops in two pieces are the same ops: the walk. -/
import Derived.Test.YtkodenjhajafpaaGreatDoorDs
set_option maxHeartbeats 20000000
set_option maxRecDepth 100000
namespace Go.Proofs.YtkodenjhajafpaaGreatDoor
open Go Go.RowKit Go.BigFrame _root_.Go.Proofs.Tryz
theorem fold_pre:∀ (m:List Opr) (q:Po) (x y:List Int),m.foldl stepA (q,x++y)=((m.foldl stepA (q,y)).1,x++(m.foldl stepA (q,y)).2)
 |[],q,x,y=>rfl
 |o::m,q,x,y=>by
  simp only[YE]
  show m.foldl stepA ((opS q o).2,(x++y)++[(opS q o).1])=((m.foldl stepA ((opS q o).2,y++[(opS q o).1])).1,x++(m.foldl stepA ((opS q o).2,y++[(opS q o).1])).2)
  rw[ZC]
  exact fold_pre m _ x _
theorem pieces {p a b:Po}{l:List Opr}{x y:List Int}{k:Nat}(hp:Aj p=true)(hl:l.length<=100)(h1:allS p (l.take k)=(a,x))(h2:allS a (l.drop k)=(b,y)):allS p l=(b,x++y):=by
 unfold allS at h1
 rw[if_pos ⟨hp,by rw[Zz];omega⟩] at h1
 have ha:Aj a=true:=by
  have:=goA_right hp (l.take k)
  rw[h1] at this;exact this
 unfold allS at h2
 rw[if_pos ⟨ha,by rw[List.length_drop];omega⟩] at h2
 unfold allS
 rw[if_pos ⟨hp,hl⟩]
 have e:goA p l=(l.drop k).foldl stepA ((l.take k).foldl stepA (p,[])):=by
  unfold goA;rw[<-List.foldl_append,YM]
 rw[e]
 have h3:(l.take k).foldl stepA (p,[])=(a,x++[]):=by rw[Yy];exact h1
 rw[h3,fold_pre]
 unfold goA at h2
 rw[h2]
theorem laws_sameInts (a:Option Addr)(n cap:Nat)(a':Option Addr)(cap':Nat)(l:List Int)(w:World)(h:AE iC 1 w a n l)(h':AE iC 1 w a' n l)(hn:n<=4194304) :
  Calls prog 19 #[.slice a n cap,.slice a' n cap'] w fun e w'=>e=.returned (.bool true)∧Below w.heap.size w w':=by
 have ha:((n:Int) != (n:Int))=false:=by simp
 go_enter func19,ntmps19
 go_wp2_with fail
 go_loopw [5] (fun ix wr=>∃ (k:Nat),k<=n∧ix=.int .i64 k∧Below w.heap.size w wr) (fun ix _=>n-(intOf ix).toNat)
 case atStart=>exact⟨0,Zg _,rfl,Yg _ _⟩
 case round=>
  obtain⟨k,hk,rfl,hB⟩:=hrel
  by_cases hlt:k<n
  ·obtain⟨b,o,p,rfl,hp,c0⟩:=int_at (h.below hB) hlt
   obtain⟨b',o',q,rfl,hq,d0⟩:=int_at (h'.below hB) hlt
   obtain rfl:=Zi (hp.symm.trans hq)
   clear hp hq
   have hb:(k:Int)<n:=by omega
   have hc:(0:Int)<=k:=by omega
   have he:(p != p)=false:=by simp
   go_wp2_with fail
   go_quiet (fail)
   go_wp2
   go_roundw
   case rel=>exact⟨k+1,by omega,by go_num,Aa hB (AJ _ _)⟩
   case measure=>simp[intOf];omega
  ·obtain rfl:k=n:=by omega
   go_wp2
   go_returns
   go_light
   exact⟨rfl,hB⟩
theorem len_all (p:Po)(l:List Opr)(hl:l.length<=100):(allS p l).2.length<=100:=by
 have h:∀ (m:List Opr) (x:Po×List Int),(m.foldl stepA x).2.length=x.2.length+m.length:=by
  intro m
  induction m with
  |nil=>intro x;rfl
  |cons o r ih=>intro x;rw[YE,ih];simp[stepA];omega
 unfold allS
 split
 ·unfold goA;rw[h];simpa using hl
 ·exact Zg _
theorem wpList_appG {P:Program}{ops:Array Oper}{rest:List Oper}{o:Oper}{a:Act}{w:World}{Q:Exit->Act->World->Prop}(hw:Region.wanted o (yielded ops a.tmps)=true)
  (h:∀ K:Act->World->Prop,(∀ a w,wpList P ops Q rest a w->K a w)->o.wp P a w K Q):wpList P ops Q (o::rest) a w:=wpList_step fun K hK=>by rw[if_pos hw];exact h K hK
def PhR (xa xs:Nat)(q:Po)(W:World)(R:World->Value->Option Addr->Nat->Nat->Prop)(x:Nat->Value)(u:World):Prop:=∃ ab a b d e f g i j k l m n sa sn sc,x xa=.pointer (some ⟨ab,0,none⟩)∧x xs=.slice sa sn sc∧Blk u ab #[.int .i64 q.size,.int .i64 q.next,.slice a b d,.slice e f g,.slice i j k,.slice l m n] 28∧R u (.agg #[.int .i64 q.size,.int .i64 q.next,.slice a b d,.slice e f g,.slice i j k,.slice l m n]) sa sn sc∧Below W.heap.size W u∧W.heap.size<=ab
theorem leafR {D:List Nat}{a0 A:Act}{xa xs:Nat}{q:Po}{W u:World}{R:World->Value->Option Addr->Nat->Nat->Prop}{ab:Nat}{a e i l sa:Option Addr}{b d f g j k m n sn sc:Nat}(E:Blk u ab #[.int .i64 q.size,.int .i64 q.next,.slice a b d,.slice e f g,.slice i j k,.slice l m n] 28)(r:R u (.agg #[.int .i64 q.size,.int .i64 q.next,.slice a b d,.slice e f g,.slice i j k,.slice l m n]) sa sn sc)(hU:Below W.heap.size W u)(h:Hid (W.heap.size<=ab))
  (h1:A.eval (.tmp xa)=.pointer (some ⟨ab,0,none⟩):=by simp only[Act.eval,Array.getD_eq_getD_getElem?,lgA,lgB,lgC,Yw]) (h2:A.eval (.tmp xs)=.slice sa sn sc:=by simp only[Act.eval,Array.getD_eq_getD_getElem?,lgA,lgB,lgC,Yw])
  (hA:A=putAll (fun k=>A.eval (.tmp k)) D a0:=by simp only[putAll,YE,List.foldl_nil,Act.put,Act.eval,lsA,lsB,lsC,Array.getD_eq_getD_getElem?,lgA,lgB,lgC,Yw]):CutQ D a0 (PhR xa xs q W R) .normal A u:=⟨rfl,_,hA,ab,a,b,d,e,f,g,i,j,k,l,m,n,sa,sn,sc,h1,h2,E,r,hU,h.out⟩
theorem walkDp (S:Addr->Prop)(ep:Addr)(a:Option Addr)(n cap:Nat)(w:World)(h:Co w a n)(hm:n<=9223372036854775807)(hE:Gf S ep w)(hgl:11<=w.heap.size) :
  Calls prog 6 #[.slice a n cap] w fun e w'=>e=.returned (.bool true)∧Below w.heap.size w w':=by
 by_cases hn:n<=1048576
 ·have hb:decide (1048576<n)=false:=by simp;omega
  go_enter func6,ntmps6
  go_wp2_with fail
  refine (HZ a n cap _ hm).mono ?_
  rintro e w1 ⟨rfl,rfl⟩
  rw[hb]
  go_wp2_with fail
  refine (spec_DrawDoneAll a n cap _ h hn).mono ?_
  rintro e w2 ⟨⟨v,p,oa,on,oc,l,rfl,⟨ob,qt⟩,PT,qp,RO,qT,h5⟩,h8⟩
  obtain rfl:=qt.out
  have hd:=qp.1
  have hA:=PT.at'
  obtain⟨ea,en,ec,va,vn,vc,ra,rn,rc,la,ln,lc,rows,rfl,hY⟩:=PT
  clear hY qp hb qt
  go_wp2_with fail
  have hW:Below w2.heap.size w2 (w2.alloc (.cells #[.int .i64 p.size,.int .i64 p.next,.slice ea en ec,.slice va vn vc,.slice ra rn rc,.slice la ln lc] 28)):=by go_grown
  have P:=Blk.new w2 #[.int .i64 p.size,.int .i64 p.next,.slice ea en ec,.slice va vn vc,.slice ra rn rc,.slice la ln lc] 28
  have hC:=Aa h8 hW
  replace hA:=hA.below hW
  replace RO:=RO.below hW
  have qK:=h8.size
  generalize w2.alloc (.cells #[.int .i64 p.size,.int .i64 p.next,.slice ea en ec,.slice va vn vc,.slice ra rn rc,.slice la ln lc] 28)=w3 at *
  have qo:=hE.below hC
  have qq:11<=w3.heap.size:=by have:=hC.size;omega
  clear hW h8
  have qs:Hid (l.length=on):=RO.sl.len
  refine (impl_DoneAll S ep (w1.heap.size+1) (by omega) _ p _ on oc l w3 hA hd RO.sl h5 (by omega) qo qq).mono ?_
  rintro e w4 ⟨⟨v1,ca,cn,cc,rfl,PX,RC,hU⟩,hJ⟩
  have hN:=(PX.t.mono (show 1<=w3.heap.size by omega)).at'
  have hO:=len_all p l (by rw[qs.out];omega)
  obtain⟨⟨q,cl⟩,hR⟩:∃ R,Hid (allS p l=R):=⟨_,rfl⟩
  rw[hR.out] at RC hN hU hO
  dsimp only at RC hN hU hO
  clear PX
  have qc:Hid (cl.length=cn):=RC.sl.len
  have qD:cn<=100:=by rw[<-qc.out];exact hO
  clear hO
  obtain⟨ea1,en1,ec1,va1,vn1,vc1,ra1,rn1,rc1,la1,ln1,lc1,rfl⟩:=hN.cells
  replace P:=P.below hJ
  replace RO:=RO.below hJ
  replace hA:=hA.below hJ
  replace hC:=Aa hC hJ
  clear hJ qo qq
  have p0:=fun ob=>Am (w:=w4) ob (Es P).1
  have p1:=fun ob=>Am (w:=w4) ob (Es P).2.1
  have p2:=fun ob=>Am (w:=w4) ob (Es P).2.2.1
  have p3:=fun ob=>Am (w:=w4) ob (Es P).2.2.2.1
  have p4:=fun ob=>Am (w:=w4) ob (Es P).2.2.2.2.1
  have p5:=fun ob=>Am (w:=w4) ob (Es P).2.2.2.2.2
  go_wp2_with fail
  have hW:Below w4.heap.size w4 (w4.alloc (.cells #[.int .i64 q.size,.int .i64 q.next,.slice ea1 en1 ec1,.slice va1 vn1 vc1,.slice ra1 rn1 rc1,.slice la1 ln1 lc1] 28)):=(Yg _ _).alloc (Zd _) _
  have E:=Blk.new w4 #[.int .i64 q.size,.int .i64 q.next,.slice ea1 en1 ec1,.slice va1 vn1 vc1,.slice ra1 rn1 rc1,.slice la1 ln1 lc1] 28
  clear p0 p1 p2 p3 p4 p5
  replace P:=P.below hW
  replace RO:=RO.below hW
  replace RC:=RC.below hW
  replace hA:=hA.below hW
  replace hN:=hN.below hW
  replace hC:=Aa hC hW
  generalize w4.alloc (.cells #[.int .i64 q.size,.int .i64 q.next,.slice ea1 en1 ec1,.slice va1 vn1 vc1,.slice ra1 rn1 rc1,.slice la1 ln1 lc1] 28)=w5 at *
  clear hW
  have qv:0<w5.heap.size:=by have:=hC.size;omega
  refine (spec_DoneAll (w1.heap.size+1) (by omega) _ p _ on oc l w5 hA hd RO.sl h5 (by omega) qv).mono ?_
  rintro e w6 ⟨⟨v2,ta,tn,tc,rfl,PX,RT,qd⟩,hL⟩
  have hT:=(PX.mono (show 1<=w5.heap.size by omega)).at'
  rw[hR.out] at RT hT qd
  dsimp only at RT hT qd
  clear PX qd qv
  obtain rfl:cn=tn:=qc.out.symm.trans RT.sl.len
  obtain⟨ea2,en2,ec2,va2,vn2,vc2,ra2,rn2,rc2,la2,ln2,lc2,rfl⟩:=hT.cells
  replace P:=P.below hL
  replace E:=E.below hL
  replace RO:=RO.below hL
  replace RC:=RC.below hL
  replace hA:=hA.below hL
  replace hN:=hN.below hL
  replace hC:=Aa hC hL
  clear hL
  go_wp2_with fail
  have hW:Below w6.heap.size w6 (w6.alloc (.cells #[.int .i64 q.size,.int .i64 q.next,.slice ea2 en2 ec2,.slice va2 vn2 vc2,.slice ra2 rn2 rc2,.slice la2 ln2 lc2] 28)):=(Yg _ _).alloc (Zd _) _
  have F:=Blk.new w6 #[.int .i64 q.size,.int .i64 q.next,.slice ea2 en2 ec2,.slice va2 vn2 vc2,.slice ra2 rn2 rc2,.slice la2 ln2 lc2] 28
  replace P:=P.below hW
  replace E:=E.below hW
  replace RO:=RO.below hW
  replace RC:=RC.below hW
  replace RT:=RT.below hW
  replace hA:=hA.below hW
  replace hN:=hN.below hW
  replace hT:=hT.below hW
  replace hC:=Aa hC hW
  generalize w6.alloc (.cells #[.int .i64 q.size,.int .i64 q.next,.slice ea2 en2 ec2,.slice va2 vn2 vc2,.slice ra2 rn2 rc2,.slice la2 ln2 lc2] 28)=w7 at *
  clear hW
  refine (laws_sameInts ca cn cc ta tc cl w7 RC.sl RT.sl (by omega)).mono ?_
  rintro e w8 ⟨rfl,hv⟩
  replace P:=P.below hv
  replace E:=E.below hv
  replace F:=F.below hv
  replace hA:=hA.below hv
  replace hN:=hN.below hv
  replace hT:=hT.below hv
  replace RO:=RO.below hv
  replace RC:=RC.below hv
  replace RT:=RT.below hv
  replace hC:=Aa hC hv
  clear hv
  obtain⟨p0,p1,p2,p3,p4,p5⟩:=Es P
  obtain⟨e0,e1,e2,e3,e4,e5⟩:=Es E
  obtain⟨g0,g1,g2,g3,g4,g5⟩:=Es F
  go_wp2_with fail
  clear p0 p1 p2 p3 p4 p5 e0 e1 e2 e3 e4 e5 g0 g1 g2 g3 g4 g5
  refine (laws_samePool 1 1 Nat.one_pos Nat.one_pos _ _ q w8 hN hT hU).mono ?_
  rintro e qZ ⟨rfl,hg⟩
  replace P:=P.below hg
  replace E:=E.below hg
  replace F:=F.below hg
  replace hA:=hA.below hg
  replace hN:=hN.below hg
  replace hT:=hT.below hg
  replace RO:=RO.below hg
  replace RC:=RC.below hg
  replace RT:=RT.below hg
  replace hC:=Aa hC hg
  clear hg
  obtain⟨p0,p1,p2,p3,p4,p5⟩:=Es P
  obtain⟨e0,e1,e2,e3,e4,e5⟩:=Es E
  obtain⟨g0,g1,g2,g3,g4,g5⟩:=Es F
  go_wp2_with fail
  clear p0 p1 p2 p3 p4 p5 e0 e1 e2 e3 e4 e5 g0 g1 g2 g3 g4 g5
  refine (ep_ (w1.heap.size+1) (by omega) _ p _ hA hd).mono ?_
  rintro e w9 ⟨rfl,hw⟩
  replace P:=P.below hw
  replace E:=E.below hw
  replace F:=F.below hw
  replace hA:=hA.below hw
  replace hN:=hN.below hw
  replace hT:=hT.below hw
  replace RO:=RO.below hw
  replace RC:=RC.below hw
  replace RT:=RT.below hw
  replace hC:=Aa hC hw
  clear hw
  cases hp:Aj p
  ·go_wp2_with fail
   refine (laws_sameInts ca cn cc ta tc cl w9 RC.sl RT.sl (by omega)).mono ?_
   rintro e hq ⟨rfl,hf⟩
   replace P:=P.below hf
   replace E:=E.below hf
   replace F:=F.below hf
   replace hA:=hA.below hf
   replace hN:=hN.below hf
   replace hT:=hT.below hf
   replace RO:=RO.below hf
   replace RC:=RC.below hf
   replace RT:=RT.below hf
   replace hC:=Aa hC hf
   clear hf
   obtain⟨p0,p1,p2,p3,p4,p5⟩:=Es P
   obtain⟨e0,e1,e2,e3,e4,e5⟩:=Es E
   obtain⟨g0,g1,g2,g3,g4,g5⟩:=Es F
   go_wp2_with fail
   clear p0 p1 p2 p3 p4 p5 e0 e1 e2 e3 e4 e5 g0 g1 g2 g3 g4 g5
   refine (laws_samePool 1 1 Nat.one_pos Nat.one_pos _ _ q hq hN hT hU).mono ?_
   rintro e qM ⟨rfl,hc⟩
   replace P:=P.below hc
   replace E:=E.below hc
   replace F:=F.below hc
   replace hA:=hA.below hc
   replace hN:=hN.below hc
   replace hT:=hT.below hc
   replace RO:=RO.below hc
   replace RC:=RC.below hc
   replace RT:=RT.below hc
   replace hC:=Aa hC hc
   clear hc
   obtain⟨p0,p1,p2,p3,p4,p5⟩:=Es P
   obtain⟨e0,e1,e2,e3,e4,e5⟩:=Es E
   obtain⟨g0,g1,g2,g3,g4,g5⟩:=Es F
   go_wp2_with fail
   go_returns
   exact⟨rfl,hC⟩
  ·skip
   go_wp2_with fail
   obtain⟨k,hk⟩:∃ k:Nat,(n:Int) % ((on:Int)+1)=(k:Int):=⟨((n:Int) % ((on:Int)+1)).toNat,(Int.toNat_of_nonneg (Int.emod_nonneg _ (by omega))).symm⟩
   have qr:k<=on:=by
    have:=Int.emod_lt_of_pos (n:Int) (show (0:Int)<(on:Int)+1 by omega)
    omega
   rw[hk]
   clear hk
   have qI:on<=oc:=by
    rcases RO.own with⟨h0,_⟩ | ⟨_,_,_,h0,_⟩
    ·cases h0
    ·exact h0
   have qJ:oc<=9223372036854775807:=by
    rcases RO.own with⟨h0,_⟩ | ⟨_,_,_,_,h0,_⟩
    ·cases h0
    ·unfold maxLen at h0;omega
   have qQ:(0:Int)<=k:=by omega
   have qR:(k:Int)<=oc:=by omega
   have qS:(k:Int)<=on:=by omega
   obtain⟨⟨q1,x1⟩,qa⟩:∃ R,Hid (allS p (l.take k)=R):=⟨_,rfl⟩
   obtain⟨⟨q2,y1⟩,qb⟩:∃ R,Hid (allS q1 (l.drop k)=R):=⟨_,rfl⟩
   have h4:=pieces hp (by rw[qs.out];omega) qa.out qb.out
   rw[hR.out] at h4
   obtain rfl:q=q2:=congrArg Prod.fst h4
   have hO:Hid (cl=x1++y1):=congrArg Prod.snd h4
   clear h4 hR
   have hQ:∀ u,Below w9.heap.size w9 u->Calls prog 17 #[.agg #[.int .i64 p.size,.int .i64 p.next,.slice ea en ec,.slice va vn vc,.slice ra rn rc,.slice la ln lc],.slice (some ⟨ob,0,none⟩) k oc] u fun e w'=>(∃ v' a' n' cap',e=.returned (.tuple #[v',.slice a' n' cap'])∧Di u.heap.size w' v' q1∧Ad iC 1 2 w' u.heap.size a' n' cap' x1∧AB q1)∧Below u.heap.size u w':=fun u hu=>by
    have h9:=impl_DoneAll S ep (w1.heap.size+1) (by omega) _ p _ k oc (l.take k) u (hA.below hu) hd ((RO.sl.take qr).below hu) (fun o ho=>h5 o (ZX ho)) (by omega) (hE.below (Aa hC hu)) (Zl hgl (Aa hC hu).size)
    rw[qa.out] at h9
    exact h9
   refine region_cut (fun u=>u.cell? ⟨w2.heap.size,0,none⟩=some (.int .i64 p.size)∧u.cell? ⟨w2.heap.size,1,none⟩=some (.int .i64 p.next)∧u.cell? ⟨w2.heap.size,2,none⟩=some (.slice ea en ec)∧u.cell? ⟨w2.heap.size,3,none⟩=some (.slice va vn vc)∧u.cell? ⟨w2.heap.size,4,none⟩=some (.slice ra rn rc)∧u.cell? ⟨w2.heap.size,5,none⟩=some (.slice la ln lc)) 11 [63,64,65,66,67,62,68,69,10,11] (PhR 10 11 q1 w9 (fun u v sa sn sc=>Al w9.heap.size u v q1∧Ad iC 1 2 u w9.heap.size sa sn sc x1∧AB q1)) (fun u hu=>Es (P.below hu)) ?walkw9 ?restw9
   case walkw9=>
    intro hs u0 hF qB
    refine tkc 0 ?_
    refine tkc 1 ?_
    refine tkc 2 ?_
    refine tkc 3 ?_
    refine twoC 4 8 (fun K hK=>?_) (fun K hK=>?_)
    ·skip
     go_simp
     refine (hQ u0 hF).mono ?_
     rintro e u1 ⟨⟨v3,sa,sn,sc,rfl,R3,RX,hP⟩,hS⟩
     obtain⟨a3,b3,d3,e3,f3,g3,i3,j3,k3,l3,m3,n3,rfl⟩:=R3.t.at'.cells
     have hj:=Aa hF hS
     have qh:=(hF).size
     dsimp only
     refine hK.out _ _ (hs u1 hj) (fun hHeld=>?_)
     clear hK K
     try simp only[Act.put,lsA,lsB,lsC]
     refine tkc 5 ?_
     refine tkc 6 ?_
     refine tkc 7 ?_
     refine oneC 8 fun K hK=>?_
     go_simp
     obtain⟨ab,u2,ha,hu,na,hB,hx,hz⟩:=al6 hj
     rw[<-hu,<-ha]
     clear hu ha
     replace R3:=R3.below hB
     replace RX:=RX.below hB
     refine hK.out _ _ (hs _ hx) (fun hHeld=>?_)
     clear hK K
     try simp only[Act.put,lsA,lsB,lsC]
     obtain⟨t0,t1,t2,t3,t4,t5⟩:=na.six
     obtain⟨f0,f1,f2,f3',f4,f5⟩:=fz6 na
     refine oneC 9 fun K hK=>?_
     go_simp
     obtain⟨u9,hM,E9,hl⟩:=AU na (.int .i64 q1.size) (.int .i64 q1.next) (.slice a3 b3 d3) (.slice e3 f3 g3) (.slice i3 j3 k3) (.slice l3 m3 n3)
     rw[<-hM]
     have hy:=ao_ hx hl hz.out
     have R9:Al w9.heap.size u9 _ q1∧Ad iC 1 2 u9 w9.heap.size sa sn sc x1∧AB q1:=⟨(R3.t.tyP hl (aa_ na)).mono (by omega),(RX.ty hl (aa_ na) (by decide)).mono (by omega),hP⟩
     refine hK.out _ _ (hs _ hy) (fun hHeld=>?_)
     clear hK K
     try simp only[Act.put,lsA,lsB,lsC]
     refine tkc 10 ?_
     refine wpAnyH_done (by kernel_rfl) ?_ _
     exact leafR E9 R9 hy hz
    ·skip
     go_simp
     obtain⟨ab,u1,ha,hu,na,hS,hj,hz⟩:=al6 hF
     rw[<-hu,<-ha]
     clear hu ha
     refine hK.out _ _ (hs _ hj) (fun hHeld=>?_)
     clear hK K
     try simp only[Act.put,lsA,lsB,lsC]
     refine oneC 4 fun K hK=>?_
     go_simp
     refine (hQ u1 hj).mono ?_
     rintro e u2 ⟨⟨v3,sa,sn,sc,rfl,R3,RX,hP⟩,hB⟩
     obtain⟨a3,b3,d3,e3,f3,g3,i3,j3,k3,l3,m3,n3,rfl⟩:=R3.t.at'.cells
     have hx:=Aa hj hB
     have qh:=(hj).size
     dsimp only
     replace na:=na.below hB
     refine hK.out _ _ (hs u2 hx) (fun hHeld=>?_)
     clear hK K
     try simp only[Act.put,lsA,lsB,lsC]
     refine tkc 5 ?_
     refine tkc 6 ?_
     refine tkc 7 ?_
     obtain⟨t0,t1,t2,t3,t4,t5⟩:=na.six
     obtain⟨f0,f1,f2,f3',f4,f5⟩:=fz6 na
     refine oneC 9 fun K hK=>?_
     go_simp
     obtain⟨u9,hM,E9,hl⟩:=AU na (.int .i64 q1.size) (.int .i64 q1.next) (.slice a3 b3 d3) (.slice e3 f3 g3) (.slice i3 j3 k3) (.slice l3 m3 n3)
     rw[<-hM]
     have hy:=ao_ hx hl hz.out
     have R9:Al w9.heap.size u9 _ q1∧Ad iC 1 2 u9 w9.heap.size sa sn sc x1∧AB q1:=⟨(R3.t.tyP hl (aa_ na)).mono (by omega),(RX.ty hl (aa_ na) (by decide)).mono (by omega),hP⟩
     refine hK.out _ _ (hs _ hy) (fun hHeld=>?_)
     clear hK K
     try simp only[Act.put,lsA,lsB,lsC]
     refine tkc 10 ?_
     refine wpAnyH_done (by kernel_rfl) ?_ _
     exact leafR E9 R9 hy hz
   rintro x hq ⟨tb,ea3,en3,ec3,va3,vn3,vc3,ra3,rn3,rc3,la3,ln3,lc3,sa,sn,sc,e6,e7,A,⟨qi,RX,qE⟩,he,qV⟩
   simp only[putAll,YE,List.foldl_nil,e6,e7]
   try simp only[Act.put,lsA,lsB,lsC]
   clear e6 e7 hQ qa
   have qL:0<w9.heap.size:=by have:=hC.size;omega
   replace P:=P.below he
   replace E:=E.below he
   replace F:=F.below he
   replace hA:=hA.below he
   replace hN:=hN.below he
   replace hT:=hT.below he
   replace RO:=RO.below he
   replace RC:=RC.below he
   replace RT:=RT.below he
   replace hC:=Aa hC he
   clear he
   have qm:=qi.at'
   clear qi
   have qg:0<hq.heap.size:=by have:=hC.size;omega
   obtain⟨so,qF,qu⟩:∃ so:Nat,(if oc=k then some (⟨ob,0,none⟩:Addr) else some ⟨ob,k*9,none⟩)=some ⟨ob,so,none⟩∧Hid (AE opC 9 hq (some ⟨ob,so,none⟩) (on-k) (l.drop k)):=by
    have h9:=oo_ RO.sl k oc qr qI
    by_cases hck:oc=k
    ·rw[if_pos hck] at h9 ⊢;exact⟨0,rfl,h9⟩
    ·rw[if_neg hck] at h9 ⊢;rw[Zq] at h9;exact⟨k*9,rfl,h9⟩
   obtain⟨t0,t1,t2,t3,t4,t5⟩:=Es A
   go_wp2_with fail
   have hQ:∀ u,Below hq.heap.size hq u->Calls prog 17 #[.agg #[.int .i64 q1.size,.int .i64 q1.next,.slice ea3 en3 ec3,.slice va3 vn3 vc3,.slice ra3 rn3 rc3,.slice la3 ln3 lc3],.slice (some ⟨ob,so,none⟩) (on-k) (oc-k)] u fun e w'=>(∃ v' a' n' cap',e=.returned (.tuple #[v',.slice a' n' cap'])∧Di u.heap.size w' v' q∧Ad iC 1 2 w' u.heap.size a' n' cap' y1∧AB q)∧Below u.heap.size u w':=fun u hu=>by
    have h9:=impl_DoneAll S ep w9.heap.size qL _ q1 _ (on-k) (oc-k) (l.drop k) u (qm.below hu) qE (qu.out.below hu) (fun o ho=>h5 o (List.mem_of_mem_drop ho)) (by omega) (hE.below (Aa hC hu)) (Zl hgl (Aa hC hu).size)
    rw[qb.out] at h9
    exact h9
   refine region_cut (fun u=>u.cell? ⟨tb,0,none⟩=some (.int .i64 q1.size)∧u.cell? ⟨tb,1,none⟩=some (.int .i64 q1.next)∧u.cell? ⟨tb,2,none⟩=some (.slice ea3 en3 ec3)∧u.cell? ⟨tb,3,none⟩=some (.slice va3 vn3 vc3)∧u.cell? ⟨tb,4,none⟩=some (.slice ra3 rn3 rc3)∧u.cell? ⟨tb,5,none⟩=some (.slice la3 ln3 lc3)) 11 [71,72,73,74,75,70,76,77,12,13] (PhR 12 13 q hq (fun u v sa sn sc=>Al hq.heap.size u v q∧Ad iC 1 2 u hq.heap.size sa sn sc y1∧AB q)) (fun u hu=>Es (A.below hu)) ?walkw10 ?restw10
   case walkw10=>
    intro hs u0 hF qB
    refine tkc 0 ?_
    refine tkc 1 ?_
    refine tkc 2 ?_
    refine tkc 3 ?_
    refine twoC 4 8 (fun K hK=>?_) (fun K hK=>?_)
    ·skip
     go_simp
     refine (hQ u0 hF).mono ?_
     rintro e u1 ⟨⟨v3,sa,sn,sc,rfl,R3,RX,hP⟩,hS⟩
     obtain⟨a3,b3,d3,e3,f3,g3,i3,j3,k3,l3,m3,n3,rfl⟩:=R3.t.at'.cells
     have hj:=Aa hF hS
     have qh:=(hF).size
     dsimp only
     refine hK.out _ _ (hs u1 hj) (fun hHeld=>?_)
     clear hK K
     try simp only[Act.put,lsA,lsB,lsC]
     refine tkc 5 ?_
     refine tkc 6 ?_
     refine tkc 7 ?_
     refine oneC 8 fun K hK=>?_
     go_simp
     obtain⟨ab,u2,ha,hu,na,hB,hx,hz⟩:=al6 hj
     rw[<-hu,<-ha]
     clear hu ha
     replace R3:=R3.below hB
     replace RX:=RX.below hB
     refine hK.out _ _ (hs _ hx) (fun hHeld=>?_)
     clear hK K
     try simp only[Act.put,lsA,lsB,lsC]
     obtain⟨t0,t1,t2,t3,t4,t5⟩:=na.six
     obtain⟨f0,f1,f2,f3',f4,f5⟩:=fz6 na
     refine oneC 9 fun K hK=>?_
     go_simp
     obtain⟨u9,hM,E9,hl⟩:=AU na (.int .i64 q.size) (.int .i64 q.next) (.slice a3 b3 d3) (.slice e3 f3 g3) (.slice i3 j3 k3) (.slice l3 m3 n3)
     rw[<-hM]
     have hy:=ao_ hx hl hz.out
     have R9:Al hq.heap.size u9 _ q∧Ad iC 1 2 u9 hq.heap.size sa sn sc y1∧AB q:=⟨(R3.t.tyP hl (aa_ na)).mono (by omega),(RX.ty hl (aa_ na) (by decide)).mono (by omega),hP⟩
     refine hK.out _ _ (hs _ hy) (fun hHeld=>?_)
     clear hK K
     try simp only[Act.put,lsA,lsB,lsC]
     refine tkc 10 ?_
     refine wpAnyH_done (by kernel_rfl) ?_ _
     exact leafR E9 R9 hy hz
    ·skip
     go_simp
     obtain⟨ab,u1,ha,hu,na,hS,hj,hz⟩:=al6 hF
     rw[<-hu,<-ha]
     clear hu ha
     refine hK.out _ _ (hs _ hj) (fun hHeld=>?_)
     clear hK K
     try simp only[Act.put,lsA,lsB,lsC]
     refine oneC 4 fun K hK=>?_
     go_simp
     refine (hQ u1 hj).mono ?_
     rintro e u2 ⟨⟨v3,sa,sn,sc,rfl,R3,RX,hP⟩,hB⟩
     obtain⟨a3,b3,d3,e3,f3,g3,i3,j3,k3,l3,m3,n3,rfl⟩:=R3.t.at'.cells
     have hx:=Aa hj hB
     have qh:=(hj).size
     dsimp only
     replace na:=na.below hB
     refine hK.out _ _ (hs u2 hx) (fun hHeld=>?_)
     clear hK K
     try simp only[Act.put,lsA,lsB,lsC]
     refine tkc 5 ?_
     refine tkc 6 ?_
     refine tkc 7 ?_
     obtain⟨t0,t1,t2,t3,t4,t5⟩:=na.six
     obtain⟨f0,f1,f2,f3',f4,f5⟩:=fz6 na
     refine oneC 9 fun K hK=>?_
     go_simp
     obtain⟨u9,hM,E9,hl⟩:=AU na (.int .i64 q.size) (.int .i64 q.next) (.slice a3 b3 d3) (.slice e3 f3 g3) (.slice i3 j3 k3) (.slice l3 m3 n3)
     rw[<-hM]
     have hy:=ao_ hx hl hz.out
     have R9:Al hq.heap.size u9 _ q∧Ad iC 1 2 u9 hq.heap.size sa sn sc y1∧AB q:=⟨(R3.t.tyP hl (aa_ na)).mono (by omega),(RX.ty hl (aa_ na) (by decide)).mono (by omega),hP⟩
     refine hK.out _ _ (hs _ hy) (fun hHeld=>?_)
     clear hK K
     try simp only[Act.put,lsA,lsB,lsC]
     refine tkc 10 ?_
     refine wpAnyH_done (by kernel_rfl) ?_ _
     exact leafR E9 R9 hy hz
   rintro x qN ⟨ub,ea4,en4,ec4,va4,vn4,vc4,ra4,rn4,rc4,la4,ln4,lc4,za,zn,zc,e6,e7,G,⟨qj,RY,qP⟩,hh,qW⟩
   simp only[putAll,YE,List.foldl_nil,e6,e7]
   try simp only[Act.put,lsA,lsB,lsC]
   clear e6 e7 hQ qb qF qu t0 t1 t2 t3 t4 t5 A qm
   replace P:=P.below hh
   replace E:=E.below hh
   replace F:=F.below hh
   replace hN:=hN.below hh
   replace RC:=RC.below hh
   replace RX:=RX.below hh
   replace hC:=Aa hC hh
   clear hh
   have hJ:=qj.at'
   clear qj
   obtain⟨t0,t1,t2,t3,t4,t5⟩:=Es G
   obtain⟨s0,s1,s2,s3,s4,s5⟩:=Es E
   go_wp2_with fail
   refine (laws_samePool hq.heap.size 1 qg Nat.one_pos _ _ q qN hJ hN hU).mono ?_
   rintro e hI ⟨rfl,ht⟩
   replace RX:=RX.below ht
   replace RY:=RY.below ht
   replace RC:=RC.below ht
   replace hC:=Aa hC ht
   clear ht t0 t1 t2 t3 t4 t5 s0 s1 s2 s3 s4 s5 P E F G hN hJ hT RT RO hA
   have hX:(prog.info? 2).map (fun i=>(i.zero,i.size,i.bytes))=some (some (.int .i64 0),1,8):=by kernel_rfl
   obtain⟨i0,hi,qw,qx,qy⟩:=info_parts hX
   have qe:=RX.sl.len
   have qf:=RY.sl.len
   have hH:Hid (sn+zn=cn):=by show _=_;rw[<-qe,<-qf,<-qc.out,hO.out,ZE]
   have qU:sn<=100:=by have:=hH.out;omega
   have qK:zn<=100:=by have:=hH.out;omega
   have qG:Hid (x1.length=sn):=qe
   have qH:Hid (y1.length=zn):=qf
   clear qe qf
   obtain⟨W12,hG⟩:∃ u,u=hI.alloc (.cells #[] 2):=⟨_,rfl⟩
   have hr:Below hI.heap.size hI W12:=by rw[hG];exact (Yg _ _).alloc (Zd _) _
   have L12:Blk W12 hI.heap.size #[] 2:=by rw[hG];exact Blk.new _ _ _
   have h1:hI.heap.size<=W12.heap.size:=hr.size
   have h2:=RX.below hr
   have h3:=RY.below hr
   have qk:=RC.below hr
   have qn:=Aa hC hr
   rw[hG] at L12 h2 h3 qk qn h1
   clear hG hr
   go_wp2_with (first | (at_builtin;refine wpList_appG (by rfl) (fun K hK=>ay_ _ _ 47 rfl hI.heap.size 2 i0 (.int .i64 0) 8 underlying47 hi qw qx qy rfl (by decide) mw_ my_ a13 sn cap13 x1 rfl h6 za zn zc y1 rfl (h3.sl.below hD) h3.arg.1 h3.arg.2 (sn+zn) rfl (by unfold maxLen;omega) (by omega) (by have:=hD.size;omega) (fun a14 cap14 qO qz hV=>hK _ _ ?_))) | (at_builtin;refine wpList_appG (by rfl) (fun K hK=>eQ_ _ _ 47 rfl hI.heap.size 2 i0 (.int .i64 0) 8 underlying47 hi qw qx qy rfl (by decide) mw_ my_ hI.heap.size rfl L12 (Zd _) sa sn sc x1 rfl h2.sl h2.arg.1 h2.arg.2 (by unfold maxLen;omega) (by omega) h1 (fun a13 cap13 qX h6 hD _ _=>hK _ _ ?_))))
   have ql:=kb_ (qk.sl.below hD) hV (fun ad qC=>at_ (B:=hI.heap.size) (fun ad' h'=>(h6.block ad' h').1) (RC.block ad qC).2)
   have qA:=jc_ (Aa qn hD) hV (fun j e=>by have:=h6.own_ge j e;have:=hC.size;omega)
   have hZ:=hH.out
   clear hH
   subst hZ
   rw[hO.out] at ql
   refine (laws_sameInts a14 (sn+zn) cap14 ca cc (x1++y1) qO qz.sl ql (by omega)).mono ?_
   rintro e qY ⟨rfl,h7⟩
   go_wp2
   go_returns
   exact⟨rfl,Aa qA h7⟩
 ·have hb:decide (1048576<n)=true:=by simp;omega
  go_enter func6,ntmps6
  go_wp2_with fail
  refine (HZ a n cap _ hm).mono ?_
  rintro e w1 ⟨rfl,rfl⟩
  rw[hb]
  go_wp2
  go_returns
  exact⟨rfl,Yg _ _⟩
end Go.Proofs.YtkodenjhajafpaaGreatDoor
