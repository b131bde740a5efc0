/- At every code: a right pool comes back from its text; what is read, written again, has just its bytes: the walk. -/
import Derived.Test.YtkkjdbfalpjhfaaGreatDoorV49q
set_option maxHeartbeats 20000000
set_option maxRecDepth 100000
namespace Go.Proofs.YtkkjdbfalpjhfaaGreatDoor
open Go Go.RowKit Go.BigFrame _root_.Go.Proofs.Tryz
theorem ans_right {p:Po}(hp:At p=true):Fx (BW p).data.toList=some p:=by
 have h1:(BW p).data.toList=Bq p:=by unfold BW;rw[if_pos hp]
 unfold Fx
 rw[h1,if_pos (Ke hp).2]
 exact IU hp
theorem ans_wrong {p:Po}(hp:At p=false):Fx (BW p).data.toList=none:=by
 have h1:(BW p).data.toList=[]:=by unfold BW;rw[hp];rfl
 unfold Fx
 rw[h1,Jw]
 split<;>rfl
theorem ans_back {s:ByteArray}{p:Po}(h:Fx s.data.toList=some p):At p=true∧BW p=s∧AJ p:=by
 unfold Fx at h
 split at h
 ·next hs=>
  unfold ER at h
  split at h
  ·next hh=>
   obtain⟨h1,h2⟩:=Classical.choose_spec hh
   obtain rfl:=Zi h
   refine ⟨h1,?_,JW (by rw[<-h2];exact hs)⟩
   unfold BW
   rw[if_pos h1,<-h2]
  ·cases h
 ·cases h
theorem walkPt (a:Option Addr)(n cap:Nat)(w:World)(h:Ds w a n)(hm:n<=9223372036854775807)(hG:Glb w) :
  Calls prog 3 #[.slice a n cap] w fun e w'=>e=.returned (.bool true)∧Below w.heap.size w w':=by
 by_cases hn:n<=1048576
 ·have hb:decide (1048576<n)=false:=by simp;omega
  go_enter func3,ntmps3
  go_wp2_with fail
  refine (LR a n cap _ hm).mono ?_
  rintro e w1 ⟨rfl,rfl⟩
  rw[hb]
  go_wp2_with fail
  refine (spec_DrawPoolText a n cap _ h hn).mono ?_
  rintro e w2 ⟨⟨v,p,rfl,PT,hE⟩,hB⟩
  have hd:=hE.1
  have hA:=(PT.mono (show 1<=w1.heap.size+1 by omega)).at'
  obtain⟨ea,en,ec,va,vn,vc,ra,rn,rc,la,ln,lc,rows,rfl,hk⟩:=PT
  clear hk hE hb
  go_wp2_with fail
  have hW:Below w2.heap.size w2 (w2.alloc (.cells #[.int .i64 p.size,.int .i64 p.next,.slice ea en ec,.slice va vn vc,.slice ra rn rc,.slice la ln lc] 28)):=by go_grown
  have P:=Blk.new w2 #[.int .i64 p.size,.int .i64 p.next,.slice ea en ec,.slice va vn vc,.slice ra rn rc,.slice la ln lc] 28
  have hC:=Aa hB hW
  replace hA:=hA.below hW
  generalize w2.alloc (.cells #[.int .i64 p.size,.int .i64 p.next,.slice ea en ec,.slice va vn vc,.slice ra rn rc,.slice la ln lc] 28)=w3 at *
  clear hW hB
  have hD:EY w3:=(hG.below hC).tab
  refine (Ky 1 _ p w3 hA hd (fun hp=>Ix hp) hD (hG.below hC).sz).mono ?_
  rintro e w4 ⟨rfl,hr⟩
  obtain⟨T,hT⟩:∃ T,Hid (BW p=T):=⟨_,rfl⟩
  rw[hT.out]
  have hI:T.size<=60000:=by rw[<-hT.out];exact text_size
  replace hA:=hA.below hr
  replace P:=P.below hr
  replace hC:=Aa hC hr
  clear hr hD
  go_wp2_with fail
  refine (Kz T w4 (by omega) (hG.below hC)).mono ?_
  rintro e w5 ⟨⟨v1,rfl,M⟩,hs⟩
  have hM:=(M.mono (show 1<=w4.heap.size by have:=hC.size;have:=hG.sz;omega)).at
  obtain⟨ok,hl⟩:∃ ok,Hid ((Fx T.data.toList).isSome=ok):=⟨_,rfl⟩
  obtain⟨q,hq⟩:∃ q,Hid ((Fx T.data.toList).getD AX=q):=⟨_,rfl⟩
  rw[hl.out]
  rw[hq.out] at hM
  clear M
  obtain⟨ea1,en1,ec1,va1,vn1,vc1,ra1,rn1,rc1,la1,ln1,lc1,rfl⟩:=hM.cells
  replace hA:=hA.below hs
  replace P:=P.below hs
  replace hC:=Aa hC hs
  clear hs
  have hW:Below w5.heap.size w5 (w5.alloc (.cells #[.int .i64 q.size,.int .i64 q.next,.slice ea1 en1 ec1,.slice va1 vn1 vc1,.slice ra1 rn1 rc1,.slice la1 ln1 lc1] 28)):=(Yg _ _).alloc (Zd _) _
  have E:=Blk.new w5 #[.int .i64 q.size,.int .i64 q.next,.slice ea1 en1 ec1,.slice va1 vn1 vc1,.slice ra1 rn1 rc1,.slice la1 ln1 lc1] 28
  replace hA:=hA.below hW
  replace P:=P.below hW
  replace hM:=hM.below hW
  replace hC:=Aa hC hW
  clear hW
  go_upto_region 6 with fail
  generalize w5.alloc (.cells #[.int .i64 q.size,.int .i64 q.next,.slice ea1 en1 ec1,.slice va1 vn1 vc1,.slice ra1 rn1 rc1,.slice la1 ln1 lc1] 28)=w6 at *
  obtain⟨x0,x1,x2,x3,x4,x5⟩:=six6T P
  go_wp2_with fail
  have q1:=Et 1 (by omega) _ p w6 hA hd (fun hp=>Ix hp)
  rw[hT.out] at q1
  refine q1.mono ?_
  rintro e w7 ⟨rfl,ha⟩
  clear q1
  clear x0 x1 x2 x3 x4 x5
  replace P:=P.below ha
  replace E:=E.below ha
  replace hA:=hA.below ha
  replace hM:=hM.below ha
  replace hC:=Aa hC ha
  clear ha
  obtain⟨x0,x1,x2,x3,x4,x5⟩:=six6T P
  go_wp2_with fail
  refine (ch_ 1 _ p w7 hA hd).mono ?_
  rintro e w8 ⟨rfl,hc⟩
  clear x0 x1 x2 x3 x4 x5
  replace P:=P.below hc
  replace E:=E.below hc
  replace hA:=hA.below hc
  replace hM:=hM.below hc
  replace hC:=Aa hC hc
  clear hc
  cases hw:At p
  case' false=>
   have h0:=ans_wrong hw
   rw[hT.out] at h0
   obtain rfl:ok=false:=by rw[<-hl.out,h0];rfl
   clear hl hq hT h0 hw hM hA P E
   obtain⟨hF,rfl⟩:∃ x,x=w8:=⟨_,rfl⟩
   go_wp2_with fail
  case' true=>
   have h0:=ans_right hw
   rw[hT.out] at h0
   obtain rfl:ok=true:=by rw[<-hl.out,h0];rfl
   obtain rfl:p=q:=by rw[<-hq.out,h0];rfl
   clear hl hq h0
   obtain⟨x0,x1,x2,x3,x4,x5⟩:=six6T P
   obtain⟨y0,y1,y2,y3,y4,y5⟩:=six6T E
   go_wp2_with fail
   have q1:=Ky 1 _ p w8 hM hd (fun hp=>Ix hp) (hG.below hC).tab (hG.below hC).sz
   rw[hT.out] at q1
   refine q1.mono ?_
   rintro e w9 ⟨rfl,he⟩
   clear q1 y0 y1 y2 y3 y4 y5
   clear x0 x1 x2 x3 x4 x5
   replace P:=P.below he
   replace E:=E.below he
   replace hA:=hA.below he
   replace hM:=hM.below he
   replace hC:=Aa hC he
   clear he
   obtain⟨x0,x1,x2,x3,x4,x5⟩:=six6T P
   obtain⟨y0,y1,y2,y3,y4,y5⟩:=six6T E
   go_wp2_with fail
   refine (laws_samePool 1 1 (by omega) (by omega) _ _ p w9 hM hA hd).mono ?_
   rintro e hF ⟨rfl,hf⟩
   clear y0 y1 y2 y3 y4 y5 hT hw
   clear x0 x1 x2 x3 x4 x5
   replace hC:=Aa hC hf
   clear hf hM hA P E
   go_wp2_with fail
  all_goals
   refine (spec_DrawReadPool a n cap hF (h.below hC) hn).mono ?_
   rintro e hH ⟨⟨t,rfl,ht⟩,hg⟩
   replace hC:=Aa hC hg
   clear hg
   go_wp2_with fail
   refine (Kz t hH (by omega) (hG.below hC)).mono ?_
   rintro e ho ⟨⟨v1,rfl,M⟩,hh⟩
   have hM:=(M.mono (show 1<=hH.heap.size by have:=hC.size;have:=hG.sz;omega)).at
   obtain⟨fi,hv⟩:∃ fi,Hid ((Fx t.data.toList).isSome=fi):=⟨_,rfl⟩
   obtain⟨x,hx⟩:∃ x,Hid ((Fx t.data.toList).getD AX=x):=⟨_,rfl⟩
   rw[hv.out]
   rw[hx.out] at hM
   clear M
   obtain⟨ea2,en2,ec2,va2,vn2,vc2,ra2,rn2,rc2,la2,ln2,lc2,rfl⟩:=hM.cells
   replace hC:=Aa hC hh
   clear hh
   have hW:Below ho.heap.size ho (ho.alloc (.cells #[.int .i64 x.size,.int .i64 x.next,.slice ea2 en2 ec2,.slice va2 vn2 vc2,.slice ra2 rn2 rc2,.slice la2 ln2 lc2] 28)):=(Yg _ _).alloc (Zd _) _
   have E:=Blk.new ho #[.int .i64 x.size,.int .i64 x.next,.slice ea2 en2 ec2,.slice va2 vn2 vc2,.slice ra2 rn2 rc2,.slice la2 ln2 lc2] 28
   replace hM:=hM.below hW
   replace hC:=Aa hC hW
   clear hW
   go_upto_region 10 with fail
   generalize ho.alloc (.cells #[.int .i64 x.size,.int .i64 x.next,.slice ea2 en2 ec2,.slice va2 vn2 vc2,.slice ra2 rn2 rc2,.slice la2 ln2 lc2] 28)=w13 at *
   go_wp2_with fail
   refine (KA t w13 (by omega) (by have:=hC.size;have:=hG.sz;omega)).mono ?_
   rintro e hy ⟨⟨v2,rfl,M⟩,hj⟩
   rw[hv.out]
   obtain⟨ea3,en3,ec3,va3,vn3,vc3,ra3,rn3,rc3,la3,ln3,lc3,vr3,rfl,_⟩:=M.out
   rw[hx.out]
   clear M
   have hW:Below hy.heap.size hy (hy.alloc (.cells #[.int .i64 x.size,.int .i64 x.next,.slice ea3 en3 ec3,.slice va3 vn3 vc3,.slice ra3 rn3 rc3,.slice la3 ln3 lc3] 28)):=(Yg _ _).alloc (Zd _) _
   have hu:=Aa hj hW
   replace E:=E.below hu
   replace hM:=hM.below hu
   replace hC:=Aa hC hu
   clear hW hj hu
   go_upto_region 11 with fail
   generalize hy.alloc (.cells #[.int .i64 x.size,.int .i64 x.next,.slice ea3 en3 ec3,.slice va3 vn3 vc3,.slice ra3 rn3 rc3,.slice la3 ln3 lc3] 28)=w15 at *
   cases fi with
   |false=>
    go_wp2
    go_returns
    exact⟨rfl,hC⟩
   |true=>
    obtain⟨y0,y1,y2,y3,y4,y5⟩:=six6T E
    have h0:Fx t.data.toList=some x:=by
     have h1:=hv.out
     have h2:=hx.out
     cases h3:Fx t.data.toList with
     |none=>rw[h3] at h1;cases h1
     |some z=>rw[h3] at h2;rw[<-h2];rfl
    obtain⟨_,h1,h2⟩:=ans_back h0
    have q1:=Ky 1 _ x w15 hM h2 (fun hp=>Ix hp) (hG.below hC).tab (hG.below hC).sz
    rw[h1] at q1
    clear h0 h1 h2 hv hx
    go_wp2_with fail
    refine q1.mono ?_
    rintro e hJ ⟨rfl,hz⟩
    go_wp2
    go_returns
    exact⟨rfl,Aa hC hz⟩
 ·have hb:decide (1048576<n)=true:=by simp;omega
  go_enter func3,ntmps3
  go_wp2_with fail
  refine (LR a n cap _ hm).mono ?_
  rintro e w1 ⟨rfl,rfl⟩
  rw[hb]
  go_wp2
  go_returns
  exact⟨rfl,Yg _ _⟩
end Go.Proofs.YtkkjdbfalpjhfaaGreatDoor
