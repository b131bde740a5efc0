/- Texts of pools, read and written; what is drawn. -/
import Derived.Test.YteejlahappbalaaGreatDoorU26
import Derived.Test.YteejlahappbalaaGreatDoorU33
import Derived.Test.YteejlahappbalaaGreatDoorU43
set_option maxHeartbeats 20000000
set_option maxRecDepth 100000
namespace Go.Proofs.YteejlahappbalaaGreatDoor
section
open Go Go.RowKit Go.BigFrame Tryz
noncomputable def I4 (s:Sr):Bool:=Az s.d&&(if Fs s.p=true then s.m==0 else (CV s.d).isSome&&Ai s.p&&s.m==(CV s.d).elim 0 (·.1))
theorem Pn (d:Dk)(m:Int)(q:Bool):(q&&(Bp d 3).1==m&&decide (0<=(Bp d 3).1))=((CV d).isSome&&q&&m==(CV d).elim 0 (·.1)):=by
 unfold CV;by_cases h:(Bp d 3).1<0
 ·rw[if_pos h];simp;intros;omega
 ·rw[if_neg h,YH];simp;constructor
  ·rintro⟨⟨a,b⟩,_⟩;exact⟨a,b.symm⟩
  ·rintro⟨a,b⟩;exact⟨⟨a,b.symm⟩,sH⟩
theorem Sl {l:List Fl}(h:Aq l=true):Az ⟨l,l,[]⟩=true:=by
 show (Aq l&&Aq l&&decide (([]:List Dp).length<=200)&&BV l l)=true;rw[h,GB];rfl
end
section
open Go.ChangeShapes Go.WideShapes Go.ChangeAt Go.RowKit Go.Deep Go.BigFrame Tryz
theorem JF {l:List Fl}(h:Aq l=true):l.length<=60∧If l:=by
 obtain⟨h1,h2,h3⟩:=Ba h;refine ⟨h1,fun x hx=>?_⟩;have q1:=EB h3 x hx;have q2:=Ck hx;simp only[nmB,Zf,ZU] at q1;omega
end
section
open Go Go.RowKit Go.BigFrame Tryz
theorem G9 (d:Dk)(nm:ByteArray):(rdD d nm).1.size<=2000000:=by
 by_cases h:Az d=true
 ·rw[Ic _ h];unfold rdL
  cases ha:atF d.live nm with
  |none=>exact Zg _
  |some i=>
   obtain⟨f,hf,-⟩:=Mq ha;have h2:=Ck (Zc hf);have h3:=(BR h).1;simp only[Aq,Zf,ZU] at h3;simp only[hf];exact Zl h2 sH
 ·rw[MQ _ sP];exact Zg _
theorem J0 (d:Dk)(p:Po)(m:Int):I4 ⟨d,p,m⟩=(Az d&&(if Fs p=true then m==0 else (Ai p&&(Bp d 3).1==m&&decide (0<=(Bp d 3).1)))):=by rw[Pn];rfl
theorem Js (v:Value)(s:Sr)(w:World)(h:StA w v s)(hd:Fp s) :
  Calls prog 69 #[v] w fun e w'=>Ve e (I4 s=true)∧Below w.heap.size w w':=by
 obtain⟨d,p,m⟩:=s;obtain⟨la,ln,lc,sa,sn,sc,oa,on,oc,ea,en,ec,va,vn,vc,ra,rn,rc,ta,tn,tc,rfl,hD,hP⟩:=h;obtain⟨hh,hj⟩:=hd;simp only at *;have C:=Blk.new w #[.slice la ln lc,.slice sa sn sc,.slice oa on oc,.int .i64 p.size,.int .i64 p.next,.slice ea en ec,.slice va vn vc,.slice ra rn rc,.slice ta tn tc,.int .i64 m] 45;have hB:Below w.heap.size w (w.alloc (.cells #[.slice la ln lc,.slice sa sn sc,.slice oa on oc,.int .i64 p.size,.int .i64 p.next,.slice ea en ec,.slice va vn vc,.slice ra rn rc,.slice ta tn tc,.int .i64 m] 45)):=sM;obtain⟨R,hR⟩:∃ R,Hid (I4 ⟨d,p,m⟩=R):=⟨_,rfl⟩;rw[hR.out];replace hR:Hid _:=hR.out.symm.trans (J0 d p m);go_enter func69,ntmps69;go_wp2_with fail;generalize w.alloc (.cells #[.slice la ln lc,.slice sa sn sc,.slice oa on oc,.int .i64 p.size,.int .i64 p.next,.slice ea en ec,.slice va vn vc,.slice ra rn rc,.slice ta tn tc,.int .i64 m] 45)=W0 at *;refine (Dt _ d W0 (hD.below hB) hh).mono ?_;rintro e w1 ⟨rfl,hc⟩;replace C:=C.below hc;replace hB:=Aa hB hc;have c:=(Dd C).1
 cases hb:Az d with
 |false=>
  go_wp2;go_returns;exact⟨⟨_,rfl,sK⟩,hB⟩
 |true=>
  go_wp2_with fail;refine (DN 1 _ p w1 (hP.below hB) hj).mono ?_;rintro e w2 ⟨rfl,he⟩;replace C:=C.below he;replace hB:=Aa hB he;replace c:=(Dd C).1
  cases hg:Fs p with
  |true=>
   go_wp2;go_returns;exact⟨⟨_,rfl,by rw[hR.out,hb,hg];simp⟩,hB⟩
  |false=>
   go_wp2_with fail;refine (FS _ d w2 (hD.below hB) hh hb (G9 d) (by have:=C.lt;omega)).mono ?_;replace hR:Hid (R=(Ai p&&(Bp d 3).1==m&&decide (0<=(Bp d 3).1))):=by show _=_;rw[hR.out,hb,hg];rfl
   generalize (Bp d 3).1=a at *;rintro e w3 ⟨⟨u,rfl,M⟩,hf⟩;obtain⟨xa,xn,xc,ya,yn,yc,za,zn,zc,ka,kn,kc,vr,rfl,_⟩:=M.out;replace C:=C.below hf;replace hB:=Aa hB hf;replace c:=fun ob=>(Dd (C.below ((Yg w3.heap.size w3).alloc (Zd _) ob))).1;go_wp2_with fail;refine (ep_ 1 sH _ p _ ((hP.below hB).below sM) hj).mono ?_;rintro e w4 ⟨rfl,ha⟩;clear c;replace ha:=Aa (show Below w3.heap.size w3 _ by go_grown) ha;replace C:=C.below ha;replace hB:=Aa hB ha;have c:=(Dd C).1;generalize Ai p=q at *
   cases q<;>go_wp2;(all_goals go_returns);(all_goals refine ⟨⟨_,rfl,?_⟩,hB⟩);all_goals (rw[hR.out];simp;try omega)
theorem Q6 {s:ByteArray}{q:Int×Po}(h:rsO s=some q):0<=q.1∧q.1<=1000000000∧Ai q.2=true:=by
 unfold rsO at h;split at h
 ·next hb=>
  cases hn:numP (hdB (El s.data.toList)) with
  |none=>rw[hn] at h;cases h
  |some n=>
   rw[hn] at h
   cases ha:Dh (tlB (El s.data.toList)) with
   |none=>rw[ha] at h;cases h
   |some p=>
    rw[ha] at h;simp only[YO] at h;split at h
    ·next hs=>
     obtain rfl:=Zi h;show 0<=n∧n<=1000000000∧Ai p=true;by_cases hc:(0<=n∧n<=1000000000)∧Ai p=true∧p.lt=[]
     ·exact⟨hc.1.1,hc.1.2,hc.2.1⟩
     ·exact pj
    ·cases h
 ·cases h
theorem H1 (d:Dk):∀ i,(Bp d i).1<=1000000000∧A7 (Bp d i).2
 |0=>⟨by show (-1:Int)<=_;omega,DP⟩
 |i+1=>by
  show (CN (Bp d i) i (rcO d i)).1<=_∧A7 (CN (Bp d i) i (rcO d i)).2
  have ih:=H1 d i
  unfold CN rcO
  split
  ·exact ih
  ·next q hq=>
   split
   ·split at hq
    ·exact⟨(Q6 hq).2.1,Ll (IK (Q6 hq).2.2).2⟩
    ·cases hq
   ·exact ih
theorem Lc {d:Dk}{keep:List Int}{t:Int}(h:(Bw d keep t).2=true):Az (Bw d keep t).1=true∧Dg (Bw d keep t).1:=by
 unfold Bw at h ⊢;split at h
 ·split at h
  ·next h1 h2=>
   rw[if_pos h1,if_pos h2];obtain⟨b1,b2⟩:=JF h2;exact⟨Sl h2,⟨by show (crL d keep t).length<=_;omega,b2⟩,⟨by show (crL d keep t).length<=_;omega,b2⟩,Zg _,fun o ho=>by cases ho⟩
  ·cases h
 ·cases h
theorem OS {d:Dk}{p:Po}{m:Int}(h:I4 ⟨d,p,m⟩=true)(hb:Fs p=false):Az d=true∧Ai p=true∧0<=m∧m<=1000000000:=by
 rw[J0,hb] at h;simp at h;have:=(H1 d 3).1;obtain⟨h1,⟨h2,h3⟩,h4⟩:=h;exact⟨h1,h2,sH,sH⟩
theorem MY:Dg noD:=⟨⟨Zg _,fun o ho=>by cases ho⟩,⟨Zg _,fun o ho=>by cases ho⟩,Zg _,fun o ho=>by cases ho⟩
theorem fq{p:Prop}(h:p:=by rw[hW];exact ((Blk.new w _ _).alloc _).alloc _):p:=h
theorem Md (v:Value)(s:Sr)(k:Int)(o:Opr)(pw:Int)(ka:Option Addr)(kn kc:Nat)(keep:List Int)(t:Int)(w:World)(h:StA w v s)(hd:Fp s)(hok:I4 s=true)(ho:EM o)(hkp:Hi w ka kn keep)(hkn:kn<=4194304) :
  Calls prog 70 #[v,.agg (Gi k o pw ka kn kc t)] w (Pg w):=by
 obtain⟨d,p,m⟩:=s;have hA:=h;obtain⟨la,ln,lc,sa,sn,sc,oa,on,oc,ea,en,ec,va,vn,vc,ra,rn,rc,ta,tn,tc,rfl,hD,hP⟩:=h;obtain⟨hu,hG⟩:=id hd;simp only at *;go_enter func70,ntmps70;go_upto_region 1 with fail;obtain⟨W,hW⟩:∃ W,W=((w.alloc (.cells #[.slice la ln lc,.slice sa sn sc,.slice oa on oc,.int .i64 p.size,.int .i64 p.next,.slice ea en ec,.slice va vn vc,.slice ra rn rc,.slice ta tn tc,.int .i64 m] 45)).alloc (.cells (Gi k o pw ka kn kc t) 83)).alloc (.cells #[.slice none 0 0,.slice none 0 0,.slice none 0 0,.int .i64 0,.int .i64 0,.slice none 0 0,.slice none 0 0,.slice none 0 0,.slice none 0 0,.int .i64 0] 45):=⟨_,rfl⟩;have C:Blk W w.heap.size #[.slice la ln lc,.slice sa sn sc,.slice oa on oc,.int .i64 p.size,.int .i64 p.next,.slice ea en ec,.slice va vn vc,.slice ra rn rc,.slice ta tn tc,.int .i64 m] 45:=fq;have A:Blk W (w.heap.size+1) (Gi k o pw ka kn kc t) 83:=by rw[hW];exact (Blk.new' _ _ _ _ sK).alloc _
 have D:Blk W (w.heap.size+2) #[.slice none 0 0,.slice none 0 0,.slice none 0 0,.int .i64 0,.int .i64 0,.slice none 0 0,.slice none 0 0,.slice none 0 0,.slice none 0 0,.int .i64 0] 45:=by rw[hW];exact Blk.new' _ _ _ _ sK
 have hB:Below w.heap.size w W:=rW;rw[<-hW];clear hW;replace C:=k10 C;replace A:=k13 A;replace D:=k10 D;rcases (show k=3∨k=1∨k=2∨¬ (1<=k∧k<=3) by omega) with rfl | rfl | rfl | hk
 focus
  go_wp2_with fail
  refine (MV _ d ka kn kc keep t _ (hD.below hB) hu (hkp.below hB) hkn).mono ?_
  rintro e w2 ⟨⟨v2,rfl,R2⟩,he⟩
  obtain⟨xa,xn,xc,ya,yn,yc,za,zn,zc,rfl⟩:=R2.at.l.cells
  have hh:=hB.size
  have hJ:=D.1.lt
  go_upto_region 4 with fail
  obtain⟨W2,hl⟩:∃ W2,W2=w2.alloc (.cells #[.slice xa xn xc,.slice ya yn yc,.slice za zn zc] 27):=⟨_,rfl⟩
  have hf:Below w2.heap.size w2 W2:=by rw[hl];go_grown
  have G:=Blk.new w2 #[.slice xa xn xc,.slice ya yn yc,.slice za zn zc] 27
  rw[<-hl] at G ⊢
  replace C:=k10 ((C.1.below he).below hf)
  replace D:=k10 ((D.1.below he).below hf)
  replace R2:=R2.below hf
  replace hB:=Aa hB (Aa he hf)
  clear hl hf he A
  cases hq:(Bw d keep t).2 with
  |false=>
   go_wp2_with fail
   replace hh:=hB.size
   refine (BM _ ⟨d,p,m⟩ _ (hA.below hB) hd).mono ?_
   rintro e w9 ⟨⟨v9,p9,rfl,S9,hr⟩,hb⟩
   obtain⟨_,_,_,_,_,_,_,_,_,_,_,_,_,_,_,_,_,_,_,_,_,rfl,-⟩:=id S9
   have hj:=D.1.lt
   replace D:=k10 (D.1.below hb)
   replace hB:=Aa hB hb
   go_wp2
   exact Cb rfl D.1 rfl rfl rfl (fun U hg=>⟨⟨_,_,_,rfl,(S9.off hg hj).mono hh,hu,hr⟩,ao_ hB hg sH⟩)
  |true=>
   obtain⟨hC,hp⟩:=Lc hq
   generalize (Bw d keep t).1=d2 at *
   have g:=(Av G).1
   go_wp2_with fail
   refine (FS _ d2 _ R2.at hp hC (G9 d2) (by have:=G.lt;omega)).mono ?_
   have hE:=H1 d2 3
   generalize Bp d2 3=q at *
   obtain⟨b,p2⟩:=q
   simp only at hE
   rintro e w3 ⟨⟨u3,rfl,M⟩,hw⟩
   have MP:=M.at
   obtain⟨fa,fn,fc,ha,hn,hc,qa,qn,qc,ua,un,uc,vr,rfl,-⟩:=M.out
   simp only at MP ⊢
   have hx:=hB.size
   go_upto_region 7 with fail
   obtain⟨W3,hy⟩:∃ W3,W3=w3.alloc (.cells #[.int .i64 p2.size,.int .i64 p2.next,.slice fa fn fc,.slice ha hn hc,.slice qa qn qc,.slice ua un uc] 33):=⟨_,rfl⟩
   have hs:Below w3.heap.size w3 W3:=by rw[hy];go_grown
   have F:=Blk.new w3 #[.int .i64 p2.size,.int .i64 p2.next,.slice fa fn fc,.slice ha hn hc,.slice qa qn qc,.slice ua un uc] 33
   rw[<-hy] at F ⊢
   have hF:=D.1.lt
   replace D:=k10 ((D.1.below hw).below hs)
   replace G:=(G.below hw).below hs
   replace g:=(Av G).1
   replace F:=k6 F
   replace R2:=(R2.below hw).below hs
   replace MP:=MP.below hs
   replace hB:=Aa hB (Aa hw hs)
   clear hy hs hw C M
   by_cases hb0:b<0
   ·go_wp2_with fail
    refine (He _ _ d2 _ R2).mono ?_
    rintro e w9 ⟨⟨v9,rfl,S9⟩,hb⟩
    obtain⟨_,_,_,_,_,_,_,_,_,_,_,_,_,_,_,_,_,_,_,_,_,rfl,-⟩:=id S9
    replace D:=k10 (D.1.below hb)
    replace hB:=Aa hB hb
    go_wp2
    exact Cb rfl D.1 rfl rfl rfl (fun U hg=>⟨⟨_,_,_,rfl,(S9.off hg sH).mono (show w.heap.size<=W.heap.size+1 by omega),hp,DP⟩,ao_ hB hg sH⟩)
   ·go_wp2
    exact Cb rfl D.1 rfl rfl rfl (fun U hg=>⟨⟨_,_,⟨d2,p2,b⟩,rfl,⟨_,_,_,_,_,_,_,_,_,_,_,_,_,_,_,_,_,_,_,_,_,rfl,(R2.tyS hg (aa_ D.1)).mono sH,(MP.off hg hF).mono sH⟩,hp,hE.2⟩,ao_ hB hg sH⟩)
 rotate_left 2
 focus
  have n1:¬ k=1:=sH
  have n2:¬ k=2:=sH
  have n3:¬ k=3:=sH
  go_wp2_with fail
  have hh:=hB.size
  refine (BM _ ⟨d,p,m⟩ _ (hA.below hB) hd).mono ?_
  rintro e w9 ⟨⟨v9,p9,rfl,S9,hr⟩,hb⟩
  obtain⟨_,_,_,_,_,_,_,_,_,_,_,_,_,_,_,_,_,_,_,_,_,rfl,-⟩:=id S9
  have hj:=D.1.lt
  replace D:=k10 (D.1.below hb)
  replace hB:=Aa hB hb
  go_wp2
  exact Cb rfl D.1 rfl rfl rfl (fun U hg=>⟨⟨_,_,_,rfl,(S9.off hg hj).mono hh,hu,hr⟩,ao_ hB hg sH⟩)
 all_goals
  go_wp2_with fail;refine (DN 1 _ p _ (hP.below hB) hG).mono ?_;rintro e w1 ⟨rfl,hv⟩;replace C:=k10 (C.1.below hv);replace A:=k13 (A.1.below hv);replace D:=k10 (D.1.below hv);replace hB:=Aa hB hv;clear hv;by_cases hbb:Fs p=true
  ·rw[hbb];go_wp2_with fail;have hh:=hB.size;refine (BM _ ⟨d,p,m⟩ _ (hA.below hB) hd).mono ?_;rintro e w9 ⟨⟨v9,p9,rfl,S9,hr⟩,hb⟩;obtain⟨_,_,_,_,_,_,_,_,_,_,_,_,_,_,_,_,_,_,_,_,_,rfl,-⟩:=id S9;have hj:=D.1.lt;replace D:=k10 (D.1.below hb);replace hB:=Aa hB hb;go_wp2;exact Cb rfl D.1 rfl rfl rfl (fun U hg=>⟨⟨_,_,_,rfl,(S9.off hg hj).mono hh,hu,hr⟩,ao_ hB hg sH⟩)
  rw[Bool.not_eq_true] at hbb;rw[hbb];obtain⟨hI,hH,hm⟩:=OS hok hbb
 focus
  have hh:=hB.size
  have hJ:=D.1.lt
  go_wp2_with fail
  refine (KB 1 sH _ p o _ (hP.below hB) hG hH ho).mono ?_
  rintro e w2 ⟨⟨v2,c,q,rfl,PT,hq⟩,he⟩
  obtain⟨fa,fn,fc,ha,hn,hc,qa,qn,qc,ua,un,uc,-,rfl,-⟩:=id PT
  go_upto_region 17 with fail
  obtain⟨W2,hl⟩:∃ W2,W2=w2.alloc (.cells #[.int .i64 q.size,.int .i64 q.next,.slice fa fn fc,.slice ha hn hc,.slice qa qn qc,.slice ua un uc] 33):=⟨_,rfl⟩
  have hf:Below w2.heap.size w2 W2:=by rw[hl];go_grown
  have F:=Blk.new w2 #[.int .i64 q.size,.int .i64 q.next,.slice fa fn fc,.slice ha hn hc,.slice qa qn qc,.slice ua un uc] 33
  rw[<-hl] at F ⊢
  replace C:=k10 ((C.1.below he).below hf)
  replace D:=k10 ((D.1.below he).below hf)
  replace PT:=PT.below hf
  replace hB:=Aa hB (Aa he hf)
  clear hl hf he A
  by_cases hc0:c=0
  ·subst hc0
   go_wp2_with fail
   have hx:=hB.size
   have hF:=D.1.lt
   refine (BM _ ⟨d,p,m⟩ _ (hA.below hB) hd).mono ?_
   rintro e w9 ⟨⟨v9,p9,rfl,S9,-⟩,hb⟩
   obtain⟨xa,xn,xc,ya,yn,yc,za,zn,zc,ka9,kn9,kc9,ga,gn,gc,ia,im,ic,ja,jn,jc,rfl,R9,-⟩:=id S9
   simp only at R9 ⊢
   go_upto_region 20 with fail
   obtain⟨W9,hz⟩:∃ W9,W9=w9.alloc (.cells #[.slice xa xn xc,.slice ya yn yc,.slice za zn zc,.int .i64 p9.size,.int .i64 p9.next,.slice ka9 kn9 kc9,.slice ga gn gc,.slice ia im ic,.slice ja jn jc,.int .i64 m] 45):=⟨_,rfl⟩
   have ht:Below w9.heap.size w9 W9:=by rw[hz];go_grown
   have E:=Blk.new w9 #[.slice xa xn xc,.slice ya yn yc,.slice za zn zc,.int .i64 p9.size,.int .i64 p9.next,.slice ka9 kn9 kc9,.slice ga gn gc,.slice ia im ic,.slice ja jn jc,.int .i64 m] 45
   rw[<-hz] at E ⊢
   have hK:=hb.size
   replace D:=k10 ((D.1.below hb).below ht)
   replace F:=k6 ((F.below hb).below ht)
   replace R9:=R9.below ht
   replace PT:=(PT.below hb).below ht
   replace hB:=Aa hB (Aa hb ht)
   replace E:=k10 E
   clear hz ht hb C
   go_upto_region 21 with fail
   obtain⟨U9,hU,E2,hg⟩:=U1 E.1 (.int .i64 q.size) (.int .i64 q.next) (.slice fa fn fc) (.slice ha hn hc) (.slice qa qn qc) (.slice ua un uc)
   rw[<-hU]
   replace R9:=R9.tyS hg (aa_ E.1)
   replace PT:=PT.tyS hg (aa_ E.1)
   replace D:=k10 (D.1.grown hg sH)
   replace hB:=ao_ hB hg sH
   replace E:=k10 E2
   clear hU hg E2 F
   go_wp2
   exact Cb rfl D.1 rfl rfl rfl (fun U hg=>⟨⟨_,_,⟨d,q,m⟩,rfl,⟨_,_,_,_,_,_,_,_,_,_,_,_,_,_,_,_,_,_,_,_,_,rfl,(R9.tyS hg (aa_ D.1)).mono hx,((PT.tyS hg (aa_ D.1)).at').mono sH⟩,hu,hq⟩,ao_ hB hg sH⟩)
  go_wp2_with fail
  replace hh:=hB.size
  refine (BM _ ⟨d,p,m⟩ _ (hA.below hB) hd).mono ?_
  rintro e w9 ⟨⟨v9,p9,rfl,S9,hr⟩,hb⟩
  obtain⟨_,_,_,_,_,_,_,_,_,_,_,_,_,_,_,_,_,_,_,_,_,rfl,-⟩:=id S9
  have hj:=D.1.lt
  replace D:=k10 (D.1.below hb)
  replace hB:=Aa hB hb
  go_wp2
  exact Cb rfl D.1 rfl rfl rfl (fun U hg=>⟨⟨_,_,_,rfl,(S9.off hg hj).mono hh,hu,hr⟩,ao_ hB hg sH⟩)
 focus
  have hh:=hB.size
  have hj:=D.1.lt
  go_wp2_with fail
  refine (KG _ ⟨d,p,m⟩ pw _ (hA.below hB) hd hI hH hm).mono ?_
  rintro e w2 ⟨⟨v2,c,s2,rfl,S2,hx⟩,he⟩
  obtain⟨_,_,_,_,_,_,_,_,_,_,_,_,_,_,_,_,_,_,_,_,_,rfl,-⟩:=id S2
  replace D:=k10 (D.1.below he)
  replace hB:=Aa hB he
  go_wp2
  exact Cb rfl D.1 rfl rfl rfl (fun U hg=>⟨⟨_,_,s2,rfl,(S2.off hg hj).mono hh,hx⟩,ao_ hB hg sH⟩)
theorem Gt (v:Value)(s:Sr)(k:Int)(o:Opr)(pw:Int)(ka:Option Addr)(kn kc:Nat)(keep:List Int)(t:Int)(w:World)(h:StA w v s)(hd:Fp s)(ho:EM o)(hkp:Hi w ka kn keep)(hkn:kn<=4194304) :
  Calls prog 31 #[v,.agg (Gi k o pw ka kn kc t)] w (Pg w):=by
 obtain⟨d,p,m⟩:=s;have hA:=h;obtain⟨la,ln,lc,sa,sn,sc,oa,on,oc,ea,en,ec,va,vn,vc,ra,rn,rc,ta,tn,tc,rfl,-⟩:=h;simp only at *;go_enter func31,ntmps31;go_upto_region 1 with fail;obtain⟨W,hW⟩:∃ W,W=((w.alloc (.cells #[.slice la ln lc,.slice sa sn sc,.slice oa on oc,.int .i64 p.size,.int .i64 p.next,.slice ea en ec,.slice va vn vc,.slice ra rn rc,.slice ta tn tc,.int .i64 m] 45)).alloc (.cells (Gi k o pw ka kn kc t) 83)).alloc (.cells #[.slice none 0 0,.slice none 0 0,.slice none 0 0,.int .i64 0,.int .i64 0,.slice none 0 0,.slice none 0 0,.slice none 0 0,.slice none 0 0,.int .i64 0] 45):=⟨_,rfl⟩;have C:Blk W w.heap.size #[.slice la ln lc,.slice sa sn sc,.slice oa on oc,.int .i64 p.size,.int .i64 p.next,.slice ea en ec,.slice va vn vc,.slice ra rn rc,.slice ta tn tc,.int .i64 m] 45:=fq;have A:Blk W (w.heap.size+1) (Gi k o pw ka kn kc t) 83:=by rw[hW];exact (Blk.new' _ _ _ _ sK).alloc _
 have D:Blk W (w.heap.size+2) #[.slice none 0 0,.slice none 0 0,.slice none 0 0,.int .i64 0,.int .i64 0,.slice none 0 0,.slice none 0 0,.slice none 0 0,.slice none 0 0,.int .i64 0] 45:=by rw[hW];exact Blk.new' _ _ _ _ sK
 have hB:Below w.heap.size w W:=rW;rw[<-hW];clear hW;replace C:=k10 C;go_wp2_with fail;refine (Js _ ⟨d,p,m⟩ W (hA.below hB) hd).mono ?_;rintro e w1 ⟨⟨b,rfl,hb⟩,ha⟩;replace C:=k10 (C.1.below ha);replace A:=k13 (A.below ha);replace D:=k10 (D.below ha);replace hB:=Aa hB ha;have hf:=hB.size;have he:=D.1.lt
 cases b with
 |false=>
  go_wp2;exact Cb rfl D.1 rfl rfl rfl (fun U hg=>⟨⟨_,_,⟨noD,Ao,0⟩,rfl,⟨_,_,_,_,_,_,_,_,_,_,_,_,_,_,_,_,_,_,_,_,_,rfl,G7 _ _,FK _ _⟩,MY,DP⟩,ao_ hB hg sH⟩)
 |true=>
  go_wp2_with fail;refine (Md _ ⟨d,p,m⟩ k o pw ka kn kc keep t w1 (hA.below hB) hd (by simpa using hb) ho (hkp.below hB) hkn).mono ?_;rintro e w2 ⟨⟨v2,c,s2,rfl,S2,hh⟩,hc⟩;obtain⟨_,_,_,_,_,_,_,_,_,_,_,_,_,_,_,_,_,_,_,_,_,rfl,-⟩:=id S2;replace D:=k10 (D.1.below hc);replace hB:=Aa hB hc;go_wp2;exact Cb rfl D.1 rfl rfl rfl (fun U hg=>⟨⟨_,_,s2,rfl,(S2.off hg he).mono hf,hh⟩,ao_ hB hg sH⟩)
end
section
open Go.RowKit Go.BigFrame Tryz
theorem JO (a:Option Addr)(n cap:Nat)(w:World)(hn:n<=9223372036854775807) :
  Calls prog 4 #[.slice a n cap] w fun e w'=>e=.returned (.bool (decide (1048576<n)))∧w'=w:=by
 go_enter func4,ntmps4;go_wp2;go_returns;go_light;refine ⟨ac_ ?_,rfl⟩;rw[YH];simp;omega
theorem L9 (a:Option Addr)(n cap:Nat)(w:World)(h:DT w a n)(hn:n<=1048576) :
  Calls prog 11 #[.slice a n cap] w fun e w'=>e=.returned (.pointer (some ⟨w.heap.size,0,none⟩))∧Rd w' w.heap.size∧Below w.heap.size w w':=by
 go_enter func11,ntmps11;go_wp2;go_returns;go_light;refine ⟨rfl,⟨a,n,cap,0,_,Blk.new _ _ _,Zg _,hn,h.below sM,fun ad h0 hb=>?_⟩,sM⟩;obtain⟨b,o,v,ha,_,_,hc⟩:=h 0 h0;rw[hb] at ha
 cases ha;exact Yk w _ hc
end
section
open Go Go.RowKit Go.BigFrame Tryz
def StV (w:World)(B b:Nat)(zv:Array Value)(u:World):Prop:=∃ cs s,Blk u b cs 45∧StF (b+1) u (.agg cs) s∧Fp s∧Blk u w.heap.size zv 45∧Rd u B∧w.grownBy u (some B)∧B<w.heap.size∧w.heap.size<b
theorem StV.mv {w u u':World}{B b:Nat}{zv:Array Value}(h:StV w B b zv u)(hR:Rd u' B)(hg:u.grownBy u' (some B)):StV w B b zv u':=by
 obtain⟨cs,s,C,S,hs,D,-,hG,h1,h2⟩:=h;exact⟨cs,s,C.grown hg sH,S.off hg sH,hs,D.grown hg sH,hR,aV_ hG hg,h1,h2⟩
theorem StV.put {w u U:World}{B b:Nat}{zv cs:Array Value}{s:Sr}(h:StV w B b zv u)(hg:u.grownBy U (some b))(C:Blk U b cs 45)(S:StF (b+1) U (.agg cs) s)(hs:Fp s):StV w B b zv U:=by
 obtain⟨-,-,-,-,-,D,hR,hG,h1,h2⟩:=h;exact⟨cs,s,C,S,hs,D.grown hg sH,hR.grown hg sH,BE hG hg (fun j e=>by cases e;omega),h1,h2⟩
theorem StV.rd {w u:World}{B b:Nat}{zv:Array Value}(h:StV w B b zv u):Rd u B:=by
 obtain⟨-,-,-,-,-,-,hR,-⟩:=h;exact hR
theorem Q8 {u:World}{b:Nat}{ty:TypeId}{z0 z1 z2 z3 z4 z5 z6 z7 z8 z9:Value}(A:Blk u b #[z0,z1,z2,z3,z4,z5,z6,z7,z8,z9] ty)(x0 x1 x2 x3 x4 x5 x6 x7 x8 x9:Value):∃ U,U=(((((((((u.setCell ⟨b,0,none⟩ x0).setCell ⟨b,1,none⟩ x1).setCell ⟨b,2,none⟩ x2).setCell ⟨b,3,none⟩ x3).setCell ⟨b,4,none⟩ x4).setCell ⟨b,5,none⟩ x5).setCell ⟨b,6,none⟩ x6).setCell ⟨b,7,none⟩ x7).setCell ⟨b,8,none⟩ x8).setCell ⟨b,9,none⟩ x9∧Blk U b #[x0,x1,x2,x3,x4,x5,x6,x7,x8,x9] ty∧u.grownBy U (some b):=
 ⟨_,rfl,CU A x0 x1 x2 x3 x4 x5 x6 x7 x8 x9,B2 u b x0 x1 x2 x3 x4 x5 x6 x7 x8 x9⟩
theorem U0 {u:World}{b:Nat}{ty:TypeId}{z0 z1 z2 z3 z4 z5 z6 z7 z8 z9:Value}(A:Blk u b #[z0,z1,z2,z3,z4,z5,z6,z7,z8,z9] ty)(x0 x1 x2:Value):∃ U,U=((u.setCell ⟨b,0,none⟩ x0).setCell ⟨b,1,none⟩ x1).setCell ⟨b,2,none⟩ x2∧Blk U b #[x0,x1,x2,z3,z4,z5,z6,z7,z8,z9] ty∧u.grownBy U (some b):=
 ⟨_,rfl,((A.set 0 x0).set 1 x1).set 2 x2,af_ (af_ (CE u b 0 x0) 1 x1) 2 x2⟩
theorem Sk {d:Dk}{o:Dp}(hd:Dg d)(ho:Gw o∧o.d.size<=10000000)(h0:(doD d o).2=0):Dg (doD d o).1:=by
 unfold doD at h0 ⊢;split at h0
 ·rename_i hb;rw[if_pos hb];exact Ng hb hd ho h0
 ·cases h0
theorem StV.lt {w u:World}{B b:Nat}{zv:Array Value}(h:StV w B b zv u):b<u.heap.size:=by
 obtain⟨_,_,C,-⟩:=h;exact C.lt
theorem OK {F:ByteArray}(h:F.size<=200000):Dg (OJ F):=by
 obtain⟨b1,b2⟩:=JF (FW h);exact⟨⟨Zl b1 sJ,b2⟩,⟨Zl b1 sJ,b2⟩,Zg _,fun o ho=>by cases ho⟩
theorem om{p:Prop}(h:p:=by simp only[AY,YE,List.foldl_nil,Act.put,Act.eval,Yj,Yq,Yr,Array.getD_eq_getD_getElem?,Yp,Yo,Yt,Yw]):p:=h
theorem KH (B:Nat)(m:Int)(w:World)(h:Rd w B)(hm0:0<=m)(hm:m<=1000) :
  Calls prog 12 #[.pointer (some ⟨B,0,none⟩),.int .i64 m] w fun e w'=>(∃ v s,e=.returned v∧StF (w.heap.size+1) w' v s∧Fp s)∧Rd w' B∧w.grownBy w' (some B):=by
 have hI:=h.lt;go_enter func12,ntmps12;go_wp2_with fail;obtain⟨W,hW⟩:∃ W,W=w.alloc (.cells #[.slice none 0 0,.slice none 0 0,.slice none 0 0,.int .i64 0,.int .i64 0,.slice none 0 0,.slice none 0 0,.slice none 0 0,.slice none 0 0,.int .i64 0] 45):=⟨_,rfl⟩;have D:Blk W w.heap.size #[.slice none 0 0,.slice none 0 0,.slice none 0 0,.int .i64 0,.int .i64 0,.slice none 0 0,.slice none 0 0,.slice none 0 0,.slice none 0 0,.int .i64 0] 45:=by rw[hW];exact Blk.new w _ _
 have hB:Below w.heap.size w W:=rW;rw[<-hW];clear hW;refine (Co B 60 W (h.below hB) sH).mono ?_;rintro e w1 ⟨⟨x,rfl,hQ,hx⟩,hR,hG⟩;replace D:=D.grown hG sH;replace hG:=aV_ (au_ (AN w B) hB) hG;clear hB;have hn:HB (60+x)=true:=by simp only[HB,Zf,ZU];omega
 go_wp2_with fail;refine (Jr _ w1).mono ?_;rintro e w2 ⟨⟨h0,-⟩ | ⟨-,la,ln,lc,sa,sn,sc,oa,on,oc,rfl,R⟩,hB2⟩
 ·rw[hn] at h0;cases h0
 simp only[Re];have hO:=D.lt;have hJ:=hB2.size;go_upto_region 2 with fail;obtain⟨W2,ht⟩:∃ W2,W2=w2.alloc (.cells #[.slice la ln lc,.slice sa sn sc,.slice oa on oc,.int .i64 (60+x),.int .i64 1,.slice none 0 0,.slice none 0 0,.slice none 0 0,.slice none 0 0,.int .i64 0] 45):=⟨_,rfl⟩;have hl:Below w2.heap.size w2 W2:=by rw[ht];go_grown
 have C:=Blk.new w2 #[.slice la ln lc,.slice sa sn sc,.slice oa on oc,.int .i64 (60+x),.int .i64 1,.slice none 0 0,.slice none 0 0,.slice none 0 0,.slice none 0 0,.int .i64 0] 45;rw[<-ht] at C ⊢;replace D:=(D.below hB2).below hl;replace hR:=(hR.below hB2).below hl;replace hG:=au_ (au_ hG hB2) hl;have hA:StA W2 (.agg #[.slice la ln lc,.slice sa sn sc,.slice oa on oc,.int .i64 (60+x),.int .i64 1,.slice none 0 0,.slice none 0 0,.slice none 0 0,.slice none 0 0,.int .i64 0]) ⟨OJ (LO (60+x)),BY (60+x),0⟩:=⟨_,_,_,_,_,_,_,_,_,_,_,_,_,_,_,_,_,_,_,_,_,rfl,(R.below hl).at,LU 1 W2 _⟩;have hd:Fp ⟨OJ (LO (60+x)),BY (60+x),0⟩:=⟨OK (JS hn),JU _⟩;clear ht hl hB2 R;replace C:=k10 C;go_wp2_with fail;refine (Gt _ ⟨OJ (LO (60+x)),BY (60+x),0⟩ 1 opU 0 none 0 0 [] 0 W2 hA hd ⟨sJ,sJ,sJ,sJ,sJ⟩ (aB_ (t:=2) (B:=0)).sl sH).mono ?_;rintro e w3 ⟨⟨v,c,s,rfl,S,hs⟩,hh⟩;clear hA hd hn;have hH:=C.1.lt;replace C:=k10 (C.1.below hh);replace D:=D.below hh;replace hR:=hR.below hh;replace hG:=au_ hG hh;have hP:=hh.size;obtain⟨ba,bn,bc,ca,cn,cc,da,dn,dc,ea,en,ec,va,vn,vc,ra,rn,rc,ta,tn,tc,rfl,-⟩:=id S;go_upto_region 3 with fail;obtain⟨U,hU,C2,hg⟩:=Q8 C.1 (.slice ba bn bc) (.slice ca cn cc) (.slice da dn dc) (.int .i64 s.p.size) (.int .i64 s.p.next) (.slice ea en ec) (.slice va vn vc) (.slice ra rn rc) (.slice ta tn tc) (.int .i64 s.m);rw[<-hU];have H:StV w B w2.heap.size #[.slice none 0 0,.slice none 0 0,.slice none 0 0,.int .i64 0,.int .i64 0,.slice none 0 0,.slice none 0 0,.slice none 0 0,.slice none 0 0,.int .i64 0] U:=⟨_,s,C2,(S.off hg hH).mono hH,hs,D.grown hg sH,hR.grown hg sH,BE hG hg (fun j e=>by cases e;omega),hI,sH⟩;clear hU C2 hg S hs D hR hG hh C;go_wp2_with fail;refine (Co B (m+1) U H.rd sH).mono ?_;rintro e w4 ⟨⟨i,rfl,hL,hi⟩,hF,hE⟩;replace H:=H.mv hF hE;have hM:i<=1000:=sH;clear hF hE hi;go_wp2_with fail;go_loopw [7] (fun iv wr=>∃ j:Int,iv=.int .i64 j∧0<=j∧j<=1000∧StV w B w2.heap.size #[.slice none 0 0,.slice none 0 0,.slice none 0 0,.int .i64 0,.int .i64 0,.slice none 0 0,.slice none 0 0,.slice none 0 0,.slice none 0 0,.int .i64 0] wr) (fun iv _=>(intOf iv).toNat)
 case atStart=>exact⟨i,rfl,hL,hM,H⟩
 case round=>
  clear H;obtain⟨j,rfl,hN,hj,H⟩:=hrel;by_cases hz:0<j
  ·go_upto_region 6 with fail;have hw:Below wr.heap.size wr wr.drew:=(Yg _ _).drew;refine EZ (fun _=>True) 9 [33,34,35,36,37,32,38,39] (fun _ u=>StV w B w2.heap.size #[.slice none 0 0,.slice none 0 0,.slice none 0 0,.int .i64 0,.int .i64 0,.slice none 0 0,.slice none 0 0,.slice none 0 0,.slice none 0 0,.int .i64 0] u) sI rfl ?_ ?_
   ·replace H:=H.mv (H.rd.below hw) (au_ (AN wr B) hw);generalize wr.drew=w5 at *;clear hw;obtain⟨cs,s,C,S,hs,D,hR,hG,-,hb⟩:=id H;obtain⟨ba,bn,bc,ca,cn,cc,da,dn,dc,ea,en,ec,va,vn,vc,ra,rn,rc,ta,tn,tc,hv,h1,h2⟩:=id S;obtain rfl:=Value.agg.inj hv;clear hv h1 h2;replace C:=k10 C;refine tkc 1 ?_;refine Gv (i:=0) (j:=2) sI rfl rfl (fun K hK=>?_) (fun K hK=>?_)
    focus
     go_simp
     refine hK.out _ _ trivial (fun hHeld=>?_)
     clear hK K
     try simp only[Act.put,Yj,Yq,Yr]
     refine Ag (i:=2) sI rfl (fun K hK=>?_)
     go_simp
     refine hK.out _ _ trivial (fun hHeld=>?_)
     clear hK K
     try simp only[Act.put,Yj,Yq,Yr]
    rotate_left
    focus
     go_simp
     refine hK.out _ _ trivial (fun hHeld=>?_)
     clear hK K
     try simp only[Act.put,Yj,Yq,Yr]
     refine Gv (i:=0) (j:=3) sI rfl rfl (fun K hK=>?_) (fun K hK=>?_)
     focus
      go_simp
      refine hK.out _ _ trivial (fun hHeld=>?_)
      clear hK K
      try simp only[Act.put,Yj,Yq,Yr]
    rotate_left
    focus
     go_simp
     refine (HF B _ s w5 hR (S.mono sH) hs).mono ?_
     rintro e w6 ⟨⟨k,o,pw,ka,kn,kc,keep,t,rfl,ho,hk,hC⟩,hf,ha⟩
     replace C:=k10 (C.1.grown ha sH)
     replace S:=S.off ha sH
     replace D:=D.grown ha sH
     replace hG:=aV_ hG ha
     dsimp only
     refine hK.out _ _ trivial (fun hHeld=>?_)
     clear hK K
     try simp only[Act.put,Yj,Yq,Yr]
     refine Ag (i:=0) sI rfl (fun K hK=>?_)
     go_simp
     refine hK.out _ _ trivial (fun hHeld=>?_)
     clear hK K
     try simp only[Act.put,Yj,Yq,Yr]
    rotate_left
    focus
     refine Ag (i:=3) sI rfl (fun K hK=>?_)
     go_simp
     refine (HF B _ s w5 hR (S.mono sH) hs).mono ?_
     rintro e w6 ⟨⟨k,o,pw,ka,kn,kc,keep,t,rfl,ho,hk,hC⟩,hf,ha⟩
     replace C:=k10 (C.1.grown ha sH)
     replace S:=S.off ha sH
     replace D:=D.grown ha sH
     replace hG:=aV_ hG ha
     dsimp only
     refine hK.out _ _ trivial (fun hHeld=>?_)
     clear hK K
     try simp only[Act.put,Yj,Yq,Yr]
    rotate_left
    focus
     refine Ag (i:=3) sI rfl (fun K hK=>?_)
     go_simp
     refine (HF B _ s w5 hR (S.mono sH) hs).mono ?_
     rintro e w6 ⟨⟨k,o,pw,ka,kn,kc,keep,t,rfl,ho,hk,hC⟩,hf,ha⟩
     replace C:=k10 (C.1.grown ha sH)
     replace S:=S.off ha sH
     replace D:=D.grown ha sH
     replace hG:=aV_ hG ha
     dsimp only
     refine hK.out _ _ trivial (fun hHeld=>?_)
     clear hK K
     try simp only[Act.put,Yj,Yq,Yr]
    rotate_left
    all_goals
     refine Ag (i:=4) sI rfl (fun K hK=>?_);go_simp;refine (Gt _ s k o pw ka kn kc keep t w6 (S.at sH) hs ho hk hC).mono ?_;rintro e w7 ⟨⟨v,c,s2,rfl,S2,hJ⟩,he⟩;have hD:=C.1.lt;replace C:=k10 (C.1.below he);replace D:=D.below he;replace hf:=hf.below he;replace hG:=au_ hG he;obtain⟨pa,pn,pc,qa,qn,qc,ua,un,uc,xa,xn,xc,ya,yn,yc,za,zn,zc,ia,im,ic,rfl,-⟩:=id S2;dsimp only;refine hK.out _ _ trivial (fun hHeld=>?_);clear hK K;(try simp only[Act.put,Yj,Yq,Yr]);refine tkc 5 ?_;refine tkc 6 ?_;refine tkc 7 ?_;refine Ag (i:=8) sI rfl (fun K hK=>?_);go_simp;obtain⟨U,hU,C2,hg⟩:=Q8 C.1 (.slice pa pn pc) (.slice qa qn qc) (.slice ua un uc) (.int .i64 s2.p.size) (.int .i64 s2.p.next) (.slice xa xn xc) (.slice ya yn yc) (.slice za zn zc) (.slice ia im ic) (.int .i64 s2.m);rw[<-hU];refine hK.out _ _ trivial (fun hHeld=>?_);clear hK K;(try simp only[Act.put,Yj,Yq,Yr]);refine wpAnyH_done sI ?_ _;exact F7 om (by exact⟨_,s2,C2,(S2.off hg hD).mono hD,hJ,D.grown hg sH,hf.grown hg sH,BE hG hg (fun j e=>by cases e;omega),hI,hb⟩)
   ·rintro x u H5;simp only[AY,YE,List.foldl_nil];(try simp only[Act.put,Yj,Yq,Yr]);clear H;go_wp2;go_roundw
    case rel=>exact⟨_,rfl,sH,sH,H5⟩
    case measure=>simp[intOf];omega
  ·obtain rfl:j=0:=sH;go_wp2_with fail;refine (Co B 40 wr H.rd sH).mono ?_;rintro e w5 ⟨⟨y,rfl,-⟩,hR5,hG5⟩;replace H:=H.mv hR5 hG5;clear hR5 hG5;rcases (show y=38∨y=39∨(¬ y=38∧¬ y=39) by omega) with rfl | rfl | ⟨n38,n39⟩
   focus
    go_wp2_with fail
    refine (I0 B 0 4 w5 H.rd sH sH sH).mono ?_
    rintro e w6 ⟨⟨n,rfl,-⟩,hf,ha⟩
    replace H:=H.mv hf ha
    obtain⟨cs,s,C,S,hs,D,hR,hG,-,hb⟩:=id H
    obtain⟨ba,bn,bc,ca,cn,cc,da,dn,dc,ea,en,ec,va,vn,vc,ra,rn,rc,ta,tn,tc,hv,h1,h2⟩:=id S
    obtain rfl:=Value.agg.inj hv
    replace C:=k10 C
    go_upto_region 14 with fail
    have hg:=CE w6 w2.heap.size 9 (.int .i64 n)
    replace H:=H.put hg (C.1.set 9 (.int .i64 n)) (s:=⟨s.d,s.p,n⟩) ⟨_,_,_,_,_,_,_,_,_,_,_,_,_,_,_,_,_,_,_,_,_,rfl,h1.off hg sH,h2.off hg sH⟩ hs
    generalize w6.setCell ⟨w2.heap.size,9,none⟩ (.int .i64 n)=w9 at *
    clear C S hs D hR hG h1 h2 hg
   rotate_left
   focus
    obtain⟨cs,s,C,S,hs,D,hR,hG,-,hb⟩:=id H
    obtain⟨ba,bn,bc,ca,cn,cc,da,dn,dc,ea,en,ec,va,vn,vc,ra,rn,rc,ta,tn,tc,hv,h1,h2⟩:=id S
    obtain rfl:=Value.agg.inj hv
    replace C:=k10 C
    go_wp2_with fail
    refine (Tn _ s.d ⟨1,⟨#[115,49]⟩,⟨#[]⟩,⟨#[63]⟩⟩ w5 h1.at hs.1 ⟨⟨sJ,sJ,sJ⟩,sJ⟩).mono ?_
    rintro e w6 ⟨⟨v6,rfl,R⟩,hr⟩
    obtain⟨xa,xn,xc,ya,yn,yc,za,zn,zc,rfl⟩:=R.at.l.cells
    obtain⟨c,hc⟩:∃ c,Hid ((doD s.d ⟨1,⟨#[115,49]⟩,⟨#[]⟩,⟨#[63]⟩⟩).2=c):=⟨_,rfl⟩
    rw[hc.out]
    go_upto_region 12 with fail
    obtain⟨W6,hu⟩:∃ W6,W6=w6.alloc (.cells #[.slice xa xn xc,.slice ya yn yc,.slice za zn zc] 27):=⟨_,rfl⟩
    have hq:Below w6.heap.size w6 W6:=by rw[hu];go_grown
    have G:=Blk.new w6 #[.slice xa xn xc,.slice ya yn yc,.slice za zn zc] 27
    rw[<-hu] at G ⊢
    replace R:=R.below hq
    replace H:=H.mv (hR.below (Aa hr hq)) (au_ (AN w5 B) (Aa hr hq))
    obtain⟨d6,hy⟩:∃ d6,(doD s.d ⟨1,⟨#[115,49]⟩,⟨#[]⟩,⟨#[63]⟩⟩).1=d6:=⟨_,rfl⟩
    have hp:c=0->Dg d6:=fun e=>by rw[<-hy];exact Sk hs.1 ⟨⟨sJ,sJ,sJ⟩,sJ⟩ (hc.out.trans e)
    rw[hy] at R
    clear hu hq hr C S hs D hR hG h1 h2 hb hy hc
    by_cases hc0:c=0
    focus
     subst hc0
     replace hp:=hp rfl
     replace G:=Av G
     go_wp2_with fail
     refine (HE _ d6 W6 R.at hp).mono ?_
     rintro e w7 ⟨⟨v7,rfl,R7⟩,he⟩
     have hD:=H.lt
     replace H:=H.mv (H.rd.below he) (au_ (AN W6 B) he)
     obtain⟨pa,pn,pc,qa,qn,qc,ua,un,uc,rfl⟩:=R7.at.l.cells
     obtain⟨cs,s,C,S,hs,D,hR,hG,-,hb⟩:=id H
     obtain⟨ba,bn,bc,ca,cn,cc,da,dn,dc,ea,en,ec,va,vn,vc,ra,rn,rc,ta,tn,tc,hv,h1,h2⟩:=id S
     obtain rfl:=Value.agg.inj hv
     replace C:=k10 C
     go_upto_region 14 with fail
     obtain⟨U,hU,C2,hg⟩:=U0 C.1 (.slice pa pn pc) (.slice qa qn qc) (.slice ua un uc)
     rw[<-hU]
     replace H:=H.put hg C2 (s:=⟨Fh d6,s.p,s.m⟩) ⟨_,_,_,_,_,_,_,_,_,_,_,_,_,_,_,_,_,_,_,_,_,rfl,(R7.off hg sH).mono sH,h2.off hg sH⟩ ⟨J3 hp,hs.2⟩
     clear hU C2 hg C S hs D hR hG h1 h2 R7 R G hp he
    rotate_left
    focus
     go_upto_region 14 with fail
    rotate_left
    skip
   rotate_left
   focus
    go_upto_region 14 with fail
   rotate_left
   all_goals
    obtain⟨cs,s,C,S,hs,D,hR,hG,-,hb⟩:=id H;obtain⟨ba,bn,bc,ca,cn,cc,da,dn,dc,ea,en,ec,va,vn,vc,ra,rn,rc,ta,tn,tc,hv,h1,h2⟩:=id S;obtain rfl:=Value.agg.inj hv;have D':=k10 D;replace C:=k10 C;go_wp2;obtain⟨U,hU,D2,hg⟩:=Q8 D (.slice ba bn bc) (.slice ca cn cc) (.slice da dn dc) (.int .i64 s.p.size) (.int .i64 s.p.next) (.slice ea en ec) (.slice va vn vc) (.slice ra rn rc) (.slice ta tn tc) (.int .i64 s.m);rw[<-hU];exact YW (results_cell_row rfl _ _ w.heap.size _ _ _ _ rfl D2 underlying45 rfl sI) rfl ⟨⟨_,s,rfl,(S.off hg sH).mono sH,hs⟩,hR.grown hg sH,BE hG hg (fun j e=>by cases e;omega)⟩
theorem Gp (a:Option Addr)(n cap:Nat)(w:World)(h:DT w a n)(hn:n<=1048576) :
  Calls prog 5 #[.slice a n cap] w fun e w'=>(∃ v d,e=.returned v∧A5 w.heap.size w' v d∧Dg d)∧Below w.heap.size w w':=by
 go_enter func5,ntmps5;go_wp2_with fail;obtain⟨W,hW⟩:∃ W,W=w.alloc (.cells #[.slice none 0 0,.slice none 0 0,.slice none 0 0] 27):=⟨_,rfl⟩;have D:Blk W w.heap.size #[.slice none 0 0,.slice none 0 0,.slice none 0 0] 27:=by rw[hW];exact Blk.new w _ _
 have hB:Below w.heap.size w W:=rW;rw[<-hW];clear hW;refine (L9 a n cap W (h.below hB) hn).mono ?_;rintro e w1 ⟨rfl,hR,ha⟩;have hl:=D.lt;replace D:=D.below ha;replace hB:=Aa hB ha;go_wp2_with fail;refine (KH W.heap.size 8 w1 hR sH sH).mono ?_;rintro e w2 ⟨⟨v,s,rfl,S,hs⟩,-,hg⟩;obtain⟨la,ln,lc,sa,sn,sc,oa,on,oc,ea,en,ec,va,vn,vc,ra,rn,rc,ta,tn,tc,rfl,h1,-⟩:=S;have hf:Sem.run prog (Instr.field 45 (.agg #[.slice la ln lc,.slice sa sn sc,.slice oa on oc,.int .i64 s.p.size,.int .i64 s.p.next,.slice ea en ec,.slice va vn vc,.slice ra rn rc,.slice ta tn tc,.int .i64 s.m]) 0) w2=.ok (.agg #[.slice la ln lc,.slice sa sn sc,.slice oa on oc]) w2:=sI;replace D:=D.grown hg sH;replace hB:=ao_ hB hg sH;have hb:=hR.lt;clear ha hg hR;have d:=Av D;go_wp2;obtain⟨U,hU⟩:∃ U,U=((w2.setCell ⟨w.heap.size,0,none⟩ (.slice la ln lc)).setCell ⟨w.heap.size,1,none⟩ (.slice sa sn sc)).setCell ⟨w.heap.size,2,none⟩ (.slice oa on oc):=⟨_,rfl⟩;have E:Blk U w.heap.size #[.slice la ln lc,.slice sa sn sc,.slice oa on oc] 27:=by rw[hU];exact ((D.set 0 _).set 1 _).set 2 _
 have hg:w2.grownBy U (some w.heap.size):=by rw[hU];exact af_ (af_ (CE w2 w.heap.size 0 _) 1 _) 2 _
 rw[<-hU];exact YW (results_cell_row rfl _ U w.heap.size _ _ _ _ rfl E underlying27 rfl sI) rfl ⟨⟨_,s.d,rfl,(h1.off hg sH).mono sH,hs.1⟩,ao_ hB hg sH⟩
end
end Go.Proofs.YteejlahappbalaaGreatDoor
